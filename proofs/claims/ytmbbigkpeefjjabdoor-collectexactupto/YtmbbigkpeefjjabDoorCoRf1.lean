/-
  Ours: the reference's small functions over a case (gen_corf.py).
-/
import Derived.Test.YtmbbigkpeefjjabDoorCoLs
import Derived.Test.YtmbbigkpeefjjabDoorKD
namespace Go.Proofs.YtmbbigkpeefjjabDoor
open Go.RowKit LedM PolM CoM

set_option maxRecDepth 20000 in
set_option maxHeartbeats 2000000 in
theorem rclear_at (c : Cs) (w : World) : Calls Tryd.prog 79 #[csV c] w fun e w' => e = .returned (csV (clr c)) ∧ Below w.heap.size w w' := by
  show Calls _ _ #[.agg (csL c).toArray] _ _
  have S1 : Hid (KD w [(w.heap.size, 27, csL c), (w.heap.size + 1, 27, csL ⟨0, false, 0, 0, 0, 0, 0, 0, 0, 0, 0, 0, 0, 0, 0⟩)] ((w.alloc (.cells (csL c).toArray 27)).alloc (.cells #[.int .i64 0, .bool false, .int .i64 0, .int .i64 0, .int .i64 0, .int .i64 0, .int .i64 0, .int .i64 0, .int .i64 0, .int .i64 0, .int .i64 0, .int .i64 0, .int .i64 0, .int .i64 0, .int .i64 0] 27))) := KD.two w _ _ _ _
  go_enter Tryd.func79, Tryd.ntmps79
  go_upto_region 1 with fail
  generalize ((w.alloc (.cells (csL c).toArray 27)).alloc (.cells #[.int .i64 0, .bool false, .int .i64 0, .int .i64 0, .int .i64 0, .int .i64 0, .int .i64 0, .int .i64 0, .int .i64 0, .int .i64 0, .int .i64 0, .int .i64 0, .int .i64 0, .int .i64 0, .int .i64 0] 27)) = w1 at *
  have c6 : w1.cell? ⟨w.heap.size, 6, none⟩ = some (.int .i64 c.pd) := S1.out.cell 0 6 rfl _ rfl
  have f6 := S1.out.fz 0 6 rfl
  have c7 : w1.cell? ⟨w.heap.size, 7, none⟩ = some (.int .i64 c.pa) := S1.out.cell 0 7 rfl _ rfl
  have f7 := S1.out.fz 0 7 rfl
  have c8 : w1.cell? ⟨w.heap.size, 8, none⟩ = some (.int .i64 c.pg) := S1.out.cell 0 8 rfl _ rfl
  have f8 := S1.out.fz 0 8 rfl
  have lt := S1.out.lt 0 rfl
  have q1 : KD w [(w.heap.size, 27, csL { c with pd := 0 }), (w.heap.size + 1, 27, csL ⟨0, false, 0, 0, 0, 0, 0, 0, 0, 0, 0, 0, 0, 0, 0⟩)] (w1.setCell ⟨w.heap.size, 6, none⟩ (.int .i64 0)) := S1.out.set 0 6 rfl (.int .i64 0)
  have q2 : KD w [(w.heap.size, 27, csL { c with pd := 0, pa := 0 }), (w.heap.size + 1, 27, csL ⟨0, false, 0, 0, 0, 0, 0, 0, 0, 0, 0, 0, 0, 0, 0⟩)] ((w1.setCell ⟨w.heap.size, 6, none⟩ (.int .i64 0)).setCell ⟨w.heap.size, 7, none⟩ (.int .i64 0)) := q1.set 0 7 rfl (.int .i64 0)
  have q3 : KD w [(w.heap.size, 27, csL (clr c)), (w.heap.size + 1, 27, csL ⟨0, false, 0, 0, 0, 0, 0, 0, 0, 0, 0, 0, 0, 0, 0⟩)] (((w1.setCell ⟨w.heap.size, 6, none⟩ (.int .i64 0)).setCell ⟨w.heap.size, 7, none⟩ (.int .i64 0)).setCell ⟨w.heap.size, 8, none⟩ (.int .i64 0)) := q2.set 0 8 rfl (.int .i64 0)
  have S2 : Hid (KD w [(w.heap.size, 27, csL (clr c)), (w.heap.size + 1, 27, csL ⟨0, false, 0, 0, 0, 0, 0, 0, 0, 0, 0, 0, 0, 0, 0⟩)] (((w1.setCell ⟨w.heap.size, 6, none⟩ (.int .i64 0)).setCell ⟨w.heap.size, 7, none⟩ (.int .i64 0)).setCell ⟨w.heap.size, 8, none⟩ (.int .i64 0))) := q3
  clear q1 q2 q3
  clear S1
  go_upto_region 4 with fail
  generalize (((w1.setCell ⟨w.heap.size, 6, none⟩ (.int .i64 0)).setCell ⟨w.heap.size, 7, none⟩ (.int .i64 0)).setCell ⟨w.heap.size, 8, none⟩ (.int .i64 0)) = w2 at *
  clear c6 c7 c8 f6 f7 f8 lt
  go_wp2_with (first
  | ((with_reducible refine at_loadT 27 ?_); refine step_load rfl 27 _ rfl (w.heap.size) 0 rfl (csL (clr c)) _ (Blk.all (S2.out.at 0 rfl)) Tryd.underlying27 rfl (sizeCsL _) ?_)
  | ((with_reducible refine at_store ?_); refine step_store rfl 27 _ _ rfl (w.heap.size + 1) 0 27 (csL ⟨0, false, 0, 0, 0, 0, 0, 0, 0, 0, 0, 0, 0, 0, 0⟩) (csL (clr c)) rfl rfl (S2.out.at 1 rfl) (Nat.le_refl 15) (sizeCsL _) (csL_one _) ?_; intro wz nz gz))
  refine ret_blk rfl rfl (w.heap.size + 1) 27 (csL (clr c)) _ rfl nz Tryd.underlying27 rfl (sizeCsL _) ?_
  exact ⟨rfl, (S2.out.store 1 rfl nz gz).bb⟩

set_option maxRecDepth 20000 in
set_option maxHeartbeats 2000000 in
theorem rback_at (c : Cs) (w : World) : Calls Tryd.prog 77 #[csV c] w fun e w' => e = .returned (csV (endP c)) ∧ Below w.heap.size w w' := by
  show Calls _ _ #[.agg (csL c).toArray] _ _
  have CL : Hid (∀ w', Calls Tryd.prog 79 #[csV c] w' fun e w'' => e = .returned (csV (clr c)) ∧ Below w'.heap.size w' w'') := fun w' => rclear_at c w'
  cases hs : c.su
  · have S1 : Hid (KD w [(w.heap.size, 27, csL c), (w.heap.size + 1, 27, csL ⟨0, false, 0, 0, 0, 0, 0, 0, 0, 0, 0, 0, 0, 0, 0⟩)] ((w.alloc (.cells (csL c).toArray 27)).alloc (.cells #[.int .i64 0, .bool false, .int .i64 0, .int .i64 0, .int .i64 0, .int .i64 0, .int .i64 0, .int .i64 0, .int .i64 0, .int .i64 0, .int .i64 0, .int .i64 0, .int .i64 0, .int .i64 0, .int .i64 0] 27))) := KD.two w _ _ _ _
    go_enter Tryd.func77, Tryd.ntmps77
    go_upto_region 1 with fail
    generalize ((w.alloc (.cells (csL c).toArray 27)).alloc (.cells #[.int .i64 0, .bool false, .int .i64 0, .int .i64 0, .int .i64 0, .int .i64 0, .int .i64 0, .int .i64 0, .int .i64 0, .int .i64 0, .int .i64 0, .int .i64 0, .int .i64 0, .int .i64 0, .int .i64 0] 27)) = w1 at *
    go_wp2_with ((with_reducible refine at_loadT 27 ?_); refine step_load rfl 27 _ rfl (w.heap.size) 0 rfl (csL c) _ (Blk.all (S1.out.at 0 rfl)) Tryd.underlying27 rfl (sizeCsL _) ?_)
    refine (CL.out _).mono ?_
    rintro e w2 ⟨rfl, bX⟩
    have S2 : Hid (KD w [(w.heap.size, 27, csL c), (w.heap.size + 1, 27, csL ⟨0, false, 0, 0, 0, 0, 0, 0, 0, 0, 0, 0, 0, 0, 0⟩)] w2) := S1.out.call bX
    clear bX S1
    go_upto_region 2 with ((with_reducible refine at_store ?_); refine step_store rfl 27 _ _ rfl (w.heap.size) 0 27 (csL c) (csL (clr c)) rfl rfl (S2.out.at 0 rfl) (Nat.le_refl 15) (sizeCsL _) (csL_one _) ?_; intro w3 n3 g3)
    have S3 : Hid (KD w [(w.heap.size, 27, csL (clr c)), (w.heap.size + 1, 27, csL ⟨0, false, 0, 0, 0, 0, 0, 0, 0, 0, 0, 0, 0, 0, 0⟩)] w3) := S2.out.store 0 rfl n3 g3
    clear n3 g3 S2
    have c0 : w3.cell? ⟨w.heap.size, 0, none⟩ = some (.int .i64 c.st) := S3.out.cell 0 0 rfl _ rfl
    have c1 : w3.cell? ⟨w.heap.size, 1, none⟩ = some (.bool false) := by rw [← hs]; exact S3.out.cell 0 1 rfl _ rfl
    have f0 := S3.out.fz 0 0 rfl
    have lt := S3.out.lt 0 rfl
    have q1 : KD w [(w.heap.size, 27, csL { clr c with st := 3 }), (w.heap.size + 1, 27, csL ⟨0, false, 0, 0, 0, 0, 0, 0, 0, 0, 0, 0, 0, 0, 0⟩)] (w3.setCell ⟨w.heap.size, 0, none⟩ (.int .i64 3)) := S3.out.set 0 0 rfl (.int .i64 3)
    have S4 : Hid (KD w [(w.heap.size, 27, csL { clr c with st := 3 }), (w.heap.size + 1, 27, csL ⟨0, false, 0, 0, 0, 0, 0, 0, 0, 0, 0, 0, 0, 0, 0⟩)] (w3.setCell ⟨w.heap.size, 0, none⟩ (.int .i64 3))) := q1
    clear q1
    clear S3
    have HE : Hid (endP c = { clr c with st := 3 }) := by show _ = _; simp [endP, clr, hs]
    clear hs
    go_upto_region 5 with fail
    generalize (w3.setCell ⟨w.heap.size, 0, none⟩ (.int .i64 3)) = w4 at *
    clear c0 c1 f0 lt
    have S5 : Hid (KD w [(w.heap.size, 27, csL (endP c)), (w.heap.size + 1, 27, csL ⟨0, false, 0, 0, 0, 0, 0, 0, 0, 0, 0, 0, 0, 0, 0⟩)] w4) := by rw [HE.out]; exact S4.out
    clear S4
    go_wp2_with (first
    | ((with_reducible refine at_loadT 27 ?_); refine step_load rfl 27 _ rfl (w.heap.size) 0 rfl (csL (endP c)) _ (Blk.all (S5.out.at 0 rfl)) Tryd.underlying27 rfl (sizeCsL _) ?_)
    | ((with_reducible refine at_store ?_); refine step_store rfl 27 _ _ rfl (w.heap.size + 1) 0 27 (csL ⟨0, false, 0, 0, 0, 0, 0, 0, 0, 0, 0, 0, 0, 0, 0⟩) (csL (endP c)) rfl rfl (S5.out.at 1 rfl) (Nat.le_refl 15) (sizeCsL _) (csL_one _) ?_; intro wz nz gz))
    refine ret_blk rfl rfl (w.heap.size + 1) 27 (csL (endP c)) _ rfl nz Tryd.underlying27 rfl (sizeCsL _) ?_
    exact ⟨rfl, (S5.out.store 1 rfl nz gz).bb⟩
  · have S1 : Hid (KD w [(w.heap.size, 27, csL c), (w.heap.size + 1, 27, csL ⟨0, false, 0, 0, 0, 0, 0, 0, 0, 0, 0, 0, 0, 0, 0⟩)] ((w.alloc (.cells (csL c).toArray 27)).alloc (.cells #[.int .i64 0, .bool false, .int .i64 0, .int .i64 0, .int .i64 0, .int .i64 0, .int .i64 0, .int .i64 0, .int .i64 0, .int .i64 0, .int .i64 0, .int .i64 0, .int .i64 0, .int .i64 0, .int .i64 0] 27))) := KD.two w _ _ _ _
    go_enter Tryd.func77, Tryd.ntmps77
    go_upto_region 1 with fail
    generalize ((w.alloc (.cells (csL c).toArray 27)).alloc (.cells #[.int .i64 0, .bool false, .int .i64 0, .int .i64 0, .int .i64 0, .int .i64 0, .int .i64 0, .int .i64 0, .int .i64 0, .int .i64 0, .int .i64 0, .int .i64 0, .int .i64 0, .int .i64 0, .int .i64 0] 27)) = w1 at *
    go_wp2_with ((with_reducible refine at_loadT 27 ?_); refine step_load rfl 27 _ rfl (w.heap.size) 0 rfl (csL c) _ (Blk.all (S1.out.at 0 rfl)) Tryd.underlying27 rfl (sizeCsL _) ?_)
    refine (CL.out _).mono ?_
    rintro e w2 ⟨rfl, bX⟩
    have S2 : Hid (KD w [(w.heap.size, 27, csL c), (w.heap.size + 1, 27, csL ⟨0, false, 0, 0, 0, 0, 0, 0, 0, 0, 0, 0, 0, 0, 0⟩)] w2) := S1.out.call bX
    clear bX S1
    go_upto_region 2 with ((with_reducible refine at_store ?_); refine step_store rfl 27 _ _ rfl (w.heap.size) 0 27 (csL c) (csL (clr c)) rfl rfl (S2.out.at 0 rfl) (Nat.le_refl 15) (sizeCsL _) (csL_one _) ?_; intro w3 n3 g3)
    have S3 : Hid (KD w [(w.heap.size, 27, csL (clr c)), (w.heap.size + 1, 27, csL ⟨0, false, 0, 0, 0, 0, 0, 0, 0, 0, 0, 0, 0, 0, 0⟩)] w3) := S2.out.store 0 rfl n3 g3
    clear n3 g3 S2
    have c0 : w3.cell? ⟨w.heap.size, 0, none⟩ = some (.int .i64 c.st) := S3.out.cell 0 0 rfl _ rfl
    have c1 : w3.cell? ⟨w.heap.size, 1, none⟩ = some (.bool true) := by rw [← hs]; exact S3.out.cell 0 1 rfl _ rfl
    have f0 := S3.out.fz 0 0 rfl
    have lt := S3.out.lt 0 rfl
    have q1 : KD w [(w.heap.size, 27, csL { clr c with st := 3 }), (w.heap.size + 1, 27, csL ⟨0, false, 0, 0, 0, 0, 0, 0, 0, 0, 0, 0, 0, 0, 0⟩)] (w3.setCell ⟨w.heap.size, 0, none⟩ (.int .i64 3)) := S3.out.set 0 0 rfl (.int .i64 3)
    have q2 : KD w [(w.heap.size, 27, csL { clr c with st := 5 }), (w.heap.size + 1, 27, csL ⟨0, false, 0, 0, 0, 0, 0, 0, 0, 0, 0, 0, 0, 0, 0⟩)] ((w3.setCell ⟨w.heap.size, 0, none⟩ (.int .i64 3)).setCell ⟨w.heap.size, 0, none⟩ (.int .i64 5)) := q1.set 0 0 rfl (.int .i64 5)
    have S4 : Hid (KD w [(w.heap.size, 27, csL { clr c with st := 5 }), (w.heap.size + 1, 27, csL ⟨0, false, 0, 0, 0, 0, 0, 0, 0, 0, 0, 0, 0, 0, 0⟩)] ((w3.setCell ⟨w.heap.size, 0, none⟩ (.int .i64 3)).setCell ⟨w.heap.size, 0, none⟩ (.int .i64 5))) := q2
    clear q1 q2
    clear S3
    have HE : Hid (endP c = { clr c with st := 5 }) := by show _ = _; simp [endP, clr, hs]
    clear hs
    go_upto_region 5 with fail
    generalize ((w3.setCell ⟨w.heap.size, 0, none⟩ (.int .i64 3)).setCell ⟨w.heap.size, 0, none⟩ (.int .i64 5)) = w4 at *
    clear c0 c1 f0 lt
    have S5 : Hid (KD w [(w.heap.size, 27, csL (endP c)), (w.heap.size + 1, 27, csL ⟨0, false, 0, 0, 0, 0, 0, 0, 0, 0, 0, 0, 0, 0, 0⟩)] w4) := by rw [HE.out]; exact S4.out
    clear S4
    go_wp2_with (first
    | ((with_reducible refine at_loadT 27 ?_); refine step_load rfl 27 _ rfl (w.heap.size) 0 rfl (csL (endP c)) _ (Blk.all (S5.out.at 0 rfl)) Tryd.underlying27 rfl (sizeCsL _) ?_)
    | ((with_reducible refine at_store ?_); refine step_store rfl 27 _ _ rfl (w.heap.size + 1) 0 27 (csL ⟨0, false, 0, 0, 0, 0, 0, 0, 0, 0, 0, 0, 0, 0, 0⟩) (csL (endP c)) rfl rfl (S5.out.at 1 rfl) (Nat.le_refl 15) (sizeCsL _) (csL_one _) ?_; intro wz nz gz))
    refine ret_blk rfl rfl (w.heap.size + 1) 27 (csL (endP c)) _ rfl nz Tryd.underlying27 rfl (sizeCsL _) ?_
    exact ⟨rfl, (S5.out.store 1 rfl nz gz).bb⟩

set_option maxRecDepth 20000 in
set_option maxHeartbeats 2000000 in
theorem rend_at (st : Int) (c : Cs) (w : World) : Calls Tryd.prog 43 #[csV c, .int .i64 st] w fun e w' => e = .returned (csV (endC st c)) ∧ Below w.heap.size w w' := by
  show Calls _ _ #[.agg (csL c).toArray, .int .i64 st] _ _
  have CL : Hid (∀ w', Calls Tryd.prog 79 #[csV c] w' fun e w'' => e = .returned (csV (clr c)) ∧ Below w'.heap.size w' w'') := fun w' => rclear_at c w'
  have S1 : Hid (KD w [(w.heap.size, 27, csL c), (w.heap.size + 1, 27, csL ⟨0, false, 0, 0, 0, 0, 0, 0, 0, 0, 0, 0, 0, 0, 0⟩)] ((w.alloc (.cells (csL c).toArray 27)).alloc (.cells #[.int .i64 0, .bool false, .int .i64 0, .int .i64 0, .int .i64 0, .int .i64 0, .int .i64 0, .int .i64 0, .int .i64 0, .int .i64 0, .int .i64 0, .int .i64 0, .int .i64 0, .int .i64 0, .int .i64 0] 27))) := KD.two w _ _ _ _
  go_enter Tryd.func43, Tryd.ntmps43
  go_upto_region 1 with fail
  generalize ((w.alloc (.cells (csL c).toArray 27)).alloc (.cells #[.int .i64 0, .bool false, .int .i64 0, .int .i64 0, .int .i64 0, .int .i64 0, .int .i64 0, .int .i64 0, .int .i64 0, .int .i64 0, .int .i64 0, .int .i64 0, .int .i64 0, .int .i64 0, .int .i64 0] 27)) = w1 at *
  go_wp2_with ((with_reducible refine at_loadT 27 ?_); refine step_load rfl 27 _ rfl (w.heap.size) 0 rfl (csL c) _ (Blk.all (S1.out.at 0 rfl)) Tryd.underlying27 rfl (sizeCsL _) ?_)
  refine (CL.out _).mono ?_
  rintro e w2 ⟨rfl, bX⟩
  have S2 : Hid (KD w [(w.heap.size, 27, csL c), (w.heap.size + 1, 27, csL ⟨0, false, 0, 0, 0, 0, 0, 0, 0, 0, 0, 0, 0, 0, 0⟩)] w2) := S1.out.call bX
  clear bX S1
  go_upto_region 2 with ((with_reducible refine at_store ?_); refine step_store rfl 27 _ _ rfl (w.heap.size) 0 27 (csL c) (csL (clr c)) rfl rfl (S2.out.at 0 rfl) (Nat.le_refl 15) (sizeCsL _) (csL_one _) ?_; intro w3 n3 g3)
  have S3 : Hid (KD w [(w.heap.size, 27, csL (clr c)), (w.heap.size + 1, 27, csL ⟨0, false, 0, 0, 0, 0, 0, 0, 0, 0, 0, 0, 0, 0, 0⟩)] w3) := S2.out.store 0 rfl n3 g3
  clear n3 g3 S2
  have c0 : w3.cell? ⟨w.heap.size, 0, none⟩ = some (.int .i64 c.st) := S3.out.cell 0 0 rfl _ rfl
  have f0 := S3.out.fz 0 0 rfl
  have c1 : w3.cell? ⟨w.heap.size, 1, none⟩ = some (.bool c.su) := S3.out.cell 0 1 rfl _ rfl
  have f1 := S3.out.fz 0 1 rfl
  have c3 : w3.cell? ⟨w.heap.size, 3, none⟩ = some (.int .i64 c.si) := S3.out.cell 0 3 rfl _ rfl
  have f3 := S3.out.fz 0 3 rfl
  have c4 : w3.cell? ⟨w.heap.size, 4, none⟩ = some (.int .i64 c.dl) := S3.out.cell 0 4 rfl _ rfl
  have f4 := S3.out.fz 0 4 rfl
  have c5 : w3.cell? ⟨w.heap.size, 5, none⟩ = some (.int .i64 c.pr) := S3.out.cell 0 5 rfl _ rfl
  have f5 := S3.out.fz 0 5 rfl
  have c13 : w3.cell? ⟨w.heap.size, 13, none⟩ = some (.int .i64 c.cf) := S3.out.cell 0 13 rfl _ rfl
  have f13 := S3.out.fz 0 13 rfl
  have lt := S3.out.lt 0 rfl
  have q1 : KD w [(w.heap.size, 27, csL { clr c with su := false }), (w.heap.size + 1, 27, csL ⟨0, false, 0, 0, 0, 0, 0, 0, 0, 0, 0, 0, 0, 0, 0⟩)] (w3.setCell ⟨w.heap.size, 1, none⟩ (.bool false)) := S3.out.set 0 1 rfl (.bool false)
  have q2 : KD w [(w.heap.size, 27, csL { clr c with su := false, si := 0 }), (w.heap.size + 1, 27, csL ⟨0, false, 0, 0, 0, 0, 0, 0, 0, 0, 0, 0, 0, 0, 0⟩)] ((w3.setCell ⟨w.heap.size, 1, none⟩ (.bool false)).setCell ⟨w.heap.size, 3, none⟩ (.int .i64 0)) := q1.set 0 3 rfl (.int .i64 0)
  have q3 : KD w [(w.heap.size, 27, csL { clr c with su := false, si := 0, dl := 0 }), (w.heap.size + 1, 27, csL ⟨0, false, 0, 0, 0, 0, 0, 0, 0, 0, 0, 0, 0, 0, 0⟩)] (((w3.setCell ⟨w.heap.size, 1, none⟩ (.bool false)).setCell ⟨w.heap.size, 3, none⟩ (.int .i64 0)).setCell ⟨w.heap.size, 4, none⟩ (.int .i64 0)) := q2.set 0 4 rfl (.int .i64 0)
  have q4 : KD w [(w.heap.size, 27, csL { clr c with su := false, si := 0, dl := 0, pr := 0 }), (w.heap.size + 1, 27, csL ⟨0, false, 0, 0, 0, 0, 0, 0, 0, 0, 0, 0, 0, 0, 0⟩)] ((((w3.setCell ⟨w.heap.size, 1, none⟩ (.bool false)).setCell ⟨w.heap.size, 3, none⟩ (.int .i64 0)).setCell ⟨w.heap.size, 4, none⟩ (.int .i64 0)).setCell ⟨w.heap.size, 5, none⟩ (.int .i64 0)) := q3.set 0 5 rfl (.int .i64 0)
  have q5 : KD w [(w.heap.size, 27, csL { clr c with su := false, si := 0, dl := 0, pr := 0, cf := 0 }), (w.heap.size + 1, 27, csL ⟨0, false, 0, 0, 0, 0, 0, 0, 0, 0, 0, 0, 0, 0, 0⟩)] (((((w3.setCell ⟨w.heap.size, 1, none⟩ (.bool false)).setCell ⟨w.heap.size, 3, none⟩ (.int .i64 0)).setCell ⟨w.heap.size, 4, none⟩ (.int .i64 0)).setCell ⟨w.heap.size, 5, none⟩ (.int .i64 0)).setCell ⟨w.heap.size, 13, none⟩ (.int .i64 0)) := q4.set 0 13 rfl (.int .i64 0)
  have q6 : KD w [(w.heap.size, 27, csL (endC st c)), (w.heap.size + 1, 27, csL ⟨0, false, 0, 0, 0, 0, 0, 0, 0, 0, 0, 0, 0, 0, 0⟩)] ((((((w3.setCell ⟨w.heap.size, 1, none⟩ (.bool false)).setCell ⟨w.heap.size, 3, none⟩ (.int .i64 0)).setCell ⟨w.heap.size, 4, none⟩ (.int .i64 0)).setCell ⟨w.heap.size, 5, none⟩ (.int .i64 0)).setCell ⟨w.heap.size, 13, none⟩ (.int .i64 0)).setCell ⟨w.heap.size, 0, none⟩ (.int .i64 st)) := q5.set 0 0 rfl (.int .i64 st)
  have S4 : Hid (KD w [(w.heap.size, 27, csL (endC st c)), (w.heap.size + 1, 27, csL ⟨0, false, 0, 0, 0, 0, 0, 0, 0, 0, 0, 0, 0, 0, 0⟩)] ((((((w3.setCell ⟨w.heap.size, 1, none⟩ (.bool false)).setCell ⟨w.heap.size, 3, none⟩ (.int .i64 0)).setCell ⟨w.heap.size, 4, none⟩ (.int .i64 0)).setCell ⟨w.heap.size, 5, none⟩ (.int .i64 0)).setCell ⟨w.heap.size, 13, none⟩ (.int .i64 0)).setCell ⟨w.heap.size, 0, none⟩ (.int .i64 st))) := q6
  clear q1 q2 q3 q4 q5 q6
  clear S3
  go_upto_region 8 with fail
  generalize ((((((w3.setCell ⟨w.heap.size, 1, none⟩ (.bool false)).setCell ⟨w.heap.size, 3, none⟩ (.int .i64 0)).setCell ⟨w.heap.size, 4, none⟩ (.int .i64 0)).setCell ⟨w.heap.size, 5, none⟩ (.int .i64 0)).setCell ⟨w.heap.size, 13, none⟩ (.int .i64 0)).setCell ⟨w.heap.size, 0, none⟩ (.int .i64 st)) = w4 at *
  clear c0 c1 c3 c4 c5 c13 f0 f1 f3 f4 f5 f13 lt
  go_wp2_with (first
  | ((with_reducible refine at_loadT 27 ?_); refine step_load rfl 27 _ rfl (w.heap.size) 0 rfl (csL (endC st c)) _ (Blk.all (S4.out.at 0 rfl)) Tryd.underlying27 rfl (sizeCsL _) ?_)
  | ((with_reducible refine at_store ?_); refine step_store rfl 27 _ _ rfl (w.heap.size + 1) 0 27 (csL ⟨0, false, 0, 0, 0, 0, 0, 0, 0, 0, 0, 0, 0, 0, 0⟩) (csL (endC st c)) rfl rfl (S4.out.at 1 rfl) (Nat.le_refl 15) (sizeCsL _) (csL_one _) ?_; intro wz nz gz))
  refine ret_blk rfl rfl (w.heap.size + 1) 27 (csL (endC st c)) _ rfl nz Tryd.underlying27 rfl (sizeCsL _) ?_
  exact ⟨rfl, (S4.out.store 1 rfl nz gz).bb⟩

set_option maxRecDepth 20000 in
set_option maxHeartbeats 2000000 in
theorem rcure_at (c : Cs) (w : World) : Calls Tryd.prog 44 #[csV c] w fun e w' => e = .returned (csV (curd c)) ∧ Below w.heap.size w w' := by
  show Calls _ _ #[.agg (csL c).toArray] _ _
  have EN : Hid (∀ w', Calls Tryd.prog 43 #[csV { c with cu := wrap64 (c.cu + 1) }, .int .i64 6] w' fun e w'' => e = .returned (csV (curd c)) ∧ Below w'.heap.size w' w'') := fun w' => rend_at 6 _ w'
  have S1 : Hid (KD w [(w.heap.size, 27, csL c), (w.heap.size + 1, 27, csL ⟨0, false, 0, 0, 0, 0, 0, 0, 0, 0, 0, 0, 0, 0, 0⟩)] ((w.alloc (.cells (csL c).toArray 27)).alloc (.cells #[.int .i64 0, .bool false, .int .i64 0, .int .i64 0, .int .i64 0, .int .i64 0, .int .i64 0, .int .i64 0, .int .i64 0, .int .i64 0, .int .i64 0, .int .i64 0, .int .i64 0, .int .i64 0, .int .i64 0] 27))) := KD.two w _ _ _ _
  go_enter Tryd.func44, Tryd.ntmps44
  go_upto_region 1 with fail
  generalize ((w.alloc (.cells (csL c).toArray 27)).alloc (.cells #[.int .i64 0, .bool false, .int .i64 0, .int .i64 0, .int .i64 0, .int .i64 0, .int .i64 0, .int .i64 0, .int .i64 0, .int .i64 0, .int .i64 0, .int .i64 0, .int .i64 0, .int .i64 0, .int .i64 0] 27)) = w1 at *
  have c11 : w1.cell? ⟨w.heap.size, 11, none⟩ = some (.int .i64 c.cu) := S1.out.cell 0 11 rfl _ rfl
  have f11 := S1.out.fz 0 11 rfl
  have lt := S1.out.lt 0 rfl
  have q1 : KD w [(w.heap.size, 27, csL { c with cu := wrap64 (c.cu + 1) }), (w.heap.size + 1, 27, csL ⟨0, false, 0, 0, 0, 0, 0, 0, 0, 0, 0, 0, 0, 0, 0⟩)] (w1.setCell ⟨w.heap.size, 11, none⟩ (.int .i64 (wrap64 (c.cu + 1)))) := S1.out.set 0 11 rfl (.int .i64 (wrap64 (c.cu + 1)))
  have S2 : Hid (KD w [(w.heap.size, 27, csL { c with cu := wrap64 (c.cu + 1) }), (w.heap.size + 1, 27, csL ⟨0, false, 0, 0, 0, 0, 0, 0, 0, 0, 0, 0, 0, 0, 0⟩)] (w1.setCell ⟨w.heap.size, 11, none⟩ (.int .i64 (wrap64 (c.cu + 1))))) := q1
  clear q1
  clear S1
  go_upto_region 2 with fail
  generalize (w1.setCell ⟨w.heap.size, 11, none⟩ (.int .i64 (wrap64 (c.cu + 1)))) = w2 at *
  clear c11 f11 lt
  go_wp2_with ((with_reducible refine at_loadT 27 ?_); refine step_load rfl 27 _ rfl (w.heap.size) 0 rfl (csL { c with cu := wrap64 (c.cu + 1) }) _ (Blk.all (S2.out.at 0 rfl)) Tryd.underlying27 rfl (sizeCsL _) ?_)
  refine (EN.out _).mono ?_
  rintro e w3 ⟨rfl, bX⟩
  have S3 : Hid (KD w [(w.heap.size, 27, csL { c with cu := wrap64 (c.cu + 1) }), (w.heap.size + 1, 27, csL ⟨0, false, 0, 0, 0, 0, 0, 0, 0, 0, 0, 0, 0, 0, 0⟩)] w3) := S2.out.call bX
  clear bX S2
  go_wp2_with ((with_reducible refine at_store ?_); refine step_store rfl 27 _ _ rfl (w.heap.size + 1) 0 27 (csL ⟨0, false, 0, 0, 0, 0, 0, 0, 0, 0, 0, 0, 0, 0, 0⟩) (csL (curd c)) rfl rfl (S3.out.at 1 rfl) (Nat.le_refl 15) (sizeCsL _) (csL_one _) ?_; intro wz nz gz)
  refine ret_blk rfl rfl (w.heap.size + 1) 27 (csL (curd c)) _ rfl nz Tryd.underlying27 rfl (sizeCsL _) ?_
  exact ⟨rfl, (S3.out.store 1 rfl nz gz).bb⟩

set_option maxRecDepth 20000 in
theorem ropen_at (c : Cs) (w : World) : Calls Tryd.prog 6 #[csV c] w fun e w' => e = .returned (.bool (opn c)) ∧ Below w.heap.size w w' := by
  have c0 := (Blk.new 27 (csL c) w).cell 0 _ rfl
  show Calls _ _ #[.agg (csL c).toArray] _ _
  unfold opn
  generalize csL c = cs at *
  generalize c.st = x at *
  by_cases h3 : x = 3
  · have d3 : (x == 3) = true := by simpa using h3
    have hh : decide (x = 3 ∨ x = 4 ∨ x = 5) = true := by simp [h3]
    rw [hh]
    clear h3 hh
    go_enter Tryd.func6, Tryd.ntmps6
    go_wp2_with fail
    go_ret
    exact ⟨rfl, below_alloc _ _⟩
  · have d3 : (x == 3) = false := by simpa using h3
    by_cases h4 : x = 4
    · have d4 : (x == 4) = true := by simpa using h4
      have hh : decide (x = 3 ∨ x = 4 ∨ x = 5) = true := by simp [h4]
      rw [hh]
      clear h3 h4 hh
      go_enter Tryd.func6, Tryd.ntmps6
      go_wp2_with fail
      go_ret
      exact ⟨rfl, below_alloc _ _⟩
    · have d4 : (x == 4) = false := by simpa using h4
      have hh : decide (x = 3 ∨ x = 4 ∨ x = 5) = (x == 5) := by simp [h3, h4]; rfl
      rw [hh]
      clear h3 h4 hh
      go_enter Tryd.func6, Tryd.ntmps6
      go_wp2_with fail
      go_ret
      exact ⟨rfl, below_alloc _ _⟩

theorem rfresh_at (w : World) : Calls Tryd.prog 14 #[] w fun e w' => e = .returned (csV fresh) ∧ Below w.heap.size w w' := by
  go_enter Tryd.func14, Tryd.ntmps14
  go_wp2_with fail
  refine ret_blk rfl rfl w.heap.size 27 (csL fresh) _ rfl (Blk.new _ _ _) Tryd.underlying27 rfl (sizeCsL fresh) ?_
  exact ⟨rfl, below_alloc _ _⟩
theorem rfits_at (a b c : Int) (w : World) (h : a ≤ c ∨ wrap64 (c - a) < b) : Calls Tryd.prog 39 #[.int .i64 a, .int .i64 b, .int .i64 c] w fun e w' => e = .returned (.bool (decide (b ≤ wrap64 (c - a)))) ∧ w' = w := by
  by_cases h0 : a ≤ c
  · have d1 : decide (a ≤ c) = true := decide_eq_true h0
    clear h h0
    go_enter Tryd.func39, Tryd.ntmps39
    go_wp2_with fail
    go_ret
    exact ⟨rfl, rfl⟩
  · have d1 : decide (a ≤ c) = false := decide_eq_false h0
    have HE : Hid (decide (b ≤ wrap64 (c - a)) = false) := decide_eq_false (by have := h.resolve_left h0; omega)
    clear h h0
    go_enter Tryd.func39, Tryd.ntmps39
    go_wp2_with fail
    go_ret
    exact ⟨by rw [HE.out]; rfl, rfl⟩

set_option maxRecDepth 20000 in
set_option maxHeartbeats 2000000 in
theorem rret_at (c : Cs) (ev : Ev) (w : World) : Calls Tryd.prog 42 #[csV c, evV ev] w fun e w' => e = .returned (csV (retM ev (c, [])).1) ∧ Below w.heap.size w w' := by
  show Calls _ _ #[.agg (csL c).toArray, .agg (evL ev).toArray] _ _
  by_cases h4 : c.st = 4
  · by_cases hq : c.pg ≤ ev.a
    · have E : (retM ev (c, [])).1 = { c with pg := 0 } := by
        have z : wrap64 0 = 0 := by simp [wrap64]
        unfold retM; rw [if_pos h4]
        by_cases hx : c.pg < ev.a
        · simp [hx, z]
        · have : c.pg = ev.a := by omega
          simp [this, z]
      rw [E]
      have d4 : (c.st == 4) = true := by simpa using h4
      have dq : decide (c.pg ≤ ev.a) = true := decide_eq_true hq
      clear E h4 hq
      have S1 : Hid (KD w [(w.heap.size, 27, csL c), (w.heap.size + 1, 37, evL ev), (w.heap.size + 1 + 1, 27, csL ⟨0, false, 0, 0, 0, 0, 0, 0, 0, 0, 0, 0, 0, 0, 0⟩)] (((w.alloc (.cells (csL c).toArray 27)).alloc (.cells (evL ev).toArray 37)).alloc (.cells #[.int .i64 0, .bool false, .int .i64 0, .int .i64 0, .int .i64 0, .int .i64 0, .int .i64 0, .int .i64 0, .int .i64 0, .int .i64 0, .int .i64 0, .int .i64 0, .int .i64 0, .int .i64 0, .int .i64 0] 27))) := KD.three w _ _ _ _ _ _
      go_enter Tryd.func42, Tryd.ntmps42
      go_upto_region 1 with fail
      generalize (((w.alloc (.cells (csL c).toArray 27)).alloc (.cells (evL ev).toArray 37)).alloc (.cells #[.int .i64 0, .bool false, .int .i64 0, .int .i64 0, .int .i64 0, .int .i64 0, .int .i64 0, .int .i64 0, .int .i64 0, .int .i64 0, .int .i64 0, .int .i64 0, .int .i64 0, .int .i64 0, .int .i64 0] 27)) = w1 at *
      have c0 : w1.cell? ⟨w.heap.size, 0, none⟩ = some (.int .i64 c.st) := S1.out.cell 0 0 rfl _ rfl
      have c8 : w1.cell? ⟨w.heap.size, 8, none⟩ = some (.int .i64 c.pg) := S1.out.cell 0 8 rfl _ rfl
      have e3 : w1.cell? ⟨w.heap.size + 1, 3, none⟩ = some (.int .i64 ev.a) := S1.out.cell 1 3 rfl _ rfl
      have f8 := S1.out.fz 0 8 rfl
      have lt := S1.out.lt 0 rfl
      have q1 : KD w [(w.heap.size, 27, csL { c with pg := 0 }), (w.heap.size + 1, 37, evL ev), (w.heap.size + 1 + 1, 27, csL ⟨0, false, 0, 0, 0, 0, 0, 0, 0, 0, 0, 0, 0, 0, 0⟩)] (w1.setCell ⟨w.heap.size, 8, none⟩ (.int .i64 (0))) := S1.out.set 0 8 rfl (.int .i64 (0))
      have S2 : Hid (KD w [(w.heap.size, 27, csL { c with pg := 0 }), (w.heap.size + 1, 37, evL ev), (w.heap.size + 1 + 1, 27, csL ⟨0, false, 0, 0, 0, 0, 0, 0, 0, 0, 0, 0, 0, 0, 0⟩)] (w1.setCell ⟨w.heap.size, 8, none⟩ (.int .i64 (0)))) := q1
      clear q1
      clear S1
      go_upto_region 5 with fail
      generalize (w1.setCell ⟨w.heap.size, 8, none⟩ (.int .i64 (0))) = w2 at *
      clear c0 c8 e3 f8 lt
      go_wp2_with (first
      | ((with_reducible refine at_loadT 27 ?_); refine step_load rfl 27 _ rfl (w.heap.size) 0 rfl (csL ({ c with pg := 0 })) _ (Blk.all (S2.out.at 0 rfl)) Tryd.underlying27 rfl (sizeCsL _) ?_)
      | ((with_reducible refine at_store ?_); refine step_store rfl 27 _ _ rfl (w.heap.size + 1 + 1) 0 27 (csL ⟨0, false, 0, 0, 0, 0, 0, 0, 0, 0, 0, 0, 0, 0, 0⟩) (csL ({ c with pg := 0 })) rfl rfl (S2.out.at 2 rfl) (Nat.le_refl 15) (sizeCsL _) (csL_one _) ?_; intro wz nz gz))
      refine ret_blk rfl rfl (w.heap.size + 1 + 1) 27 (csL ({ c with pg := 0 })) _ rfl nz Tryd.underlying27 rfl (sizeCsL _) ?_
      exact ⟨rfl, (S2.out.store 2 rfl nz gz).bb⟩
    · have E : (retM ev (c, [])).1 = { c with pg := wrap64 (c.pg - ev.a) } := by
        have hx : ¬ c.pg < ev.a := by omega
        unfold retM; rw [if_pos h4]; simp [hx]
      rw [E]
      have d4 : (c.st == 4) = true := by simpa using h4
      have dq : decide (c.pg ≤ ev.a) = false := decide_eq_false hq
      clear E h4 hq
      have S1 : Hid (KD w [(w.heap.size, 27, csL c), (w.heap.size + 1, 37, evL ev), (w.heap.size + 1 + 1, 27, csL ⟨0, false, 0, 0, 0, 0, 0, 0, 0, 0, 0, 0, 0, 0, 0⟩)] (((w.alloc (.cells (csL c).toArray 27)).alloc (.cells (evL ev).toArray 37)).alloc (.cells #[.int .i64 0, .bool false, .int .i64 0, .int .i64 0, .int .i64 0, .int .i64 0, .int .i64 0, .int .i64 0, .int .i64 0, .int .i64 0, .int .i64 0, .int .i64 0, .int .i64 0, .int .i64 0, .int .i64 0] 27))) := KD.three w _ _ _ _ _ _
      go_enter Tryd.func42, Tryd.ntmps42
      go_upto_region 1 with fail
      generalize (((w.alloc (.cells (csL c).toArray 27)).alloc (.cells (evL ev).toArray 37)).alloc (.cells #[.int .i64 0, .bool false, .int .i64 0, .int .i64 0, .int .i64 0, .int .i64 0, .int .i64 0, .int .i64 0, .int .i64 0, .int .i64 0, .int .i64 0, .int .i64 0, .int .i64 0, .int .i64 0, .int .i64 0] 27)) = w1 at *
      have c0 : w1.cell? ⟨w.heap.size, 0, none⟩ = some (.int .i64 c.st) := S1.out.cell 0 0 rfl _ rfl
      have c8 : w1.cell? ⟨w.heap.size, 8, none⟩ = some (.int .i64 c.pg) := S1.out.cell 0 8 rfl _ rfl
      have e3 : w1.cell? ⟨w.heap.size + 1, 3, none⟩ = some (.int .i64 ev.a) := S1.out.cell 1 3 rfl _ rfl
      have f8 := S1.out.fz 0 8 rfl
      have lt := S1.out.lt 0 rfl
      have q1 : KD w [(w.heap.size, 27, csL { c with pg := wrap64 (c.pg - ev.a) }), (w.heap.size + 1, 37, evL ev), (w.heap.size + 1 + 1, 27, csL ⟨0, false, 0, 0, 0, 0, 0, 0, 0, 0, 0, 0, 0, 0, 0⟩)] (w1.setCell ⟨w.heap.size, 8, none⟩ (.int .i64 (wrap64 (c.pg - ev.a)))) := S1.out.set 0 8 rfl (.int .i64 (wrap64 (c.pg - ev.a)))
      have S2 : Hid (KD w [(w.heap.size, 27, csL { c with pg := wrap64 (c.pg - ev.a) }), (w.heap.size + 1, 37, evL ev), (w.heap.size + 1 + 1, 27, csL ⟨0, false, 0, 0, 0, 0, 0, 0, 0, 0, 0, 0, 0, 0, 0⟩)] (w1.setCell ⟨w.heap.size, 8, none⟩ (.int .i64 (wrap64 (c.pg - ev.a))))) := q1
      clear q1
      clear S1
      go_upto_region 5 with fail
      generalize (w1.setCell ⟨w.heap.size, 8, none⟩ (.int .i64 (wrap64 (c.pg - ev.a)))) = w2 at *
      clear c0 c8 e3 f8 lt
      go_wp2_with (first
      | ((with_reducible refine at_loadT 27 ?_); refine step_load rfl 27 _ rfl (w.heap.size) 0 rfl (csL ({ c with pg := wrap64 (c.pg - ev.a) })) _ (Blk.all (S2.out.at 0 rfl)) Tryd.underlying27 rfl (sizeCsL _) ?_)
      | ((with_reducible refine at_store ?_); refine step_store rfl 27 _ _ rfl (w.heap.size + 1 + 1) 0 27 (csL ⟨0, false, 0, 0, 0, 0, 0, 0, 0, 0, 0, 0, 0, 0, 0⟩) (csL ({ c with pg := wrap64 (c.pg - ev.a) })) rfl rfl (S2.out.at 2 rfl) (Nat.le_refl 15) (sizeCsL _) (csL_one _) ?_; intro wz nz gz))
      refine ret_blk rfl rfl (w.heap.size + 1 + 1) 27 (csL ({ c with pg := wrap64 (c.pg - ev.a) })) _ rfl nz Tryd.underlying27 rfl (sizeCsL _) ?_
      exact ⟨rfl, (S2.out.store 2 rfl nz gz).bb⟩
  · have E : retM ev (c, []) = (c, []) := by simp [retM, h4]
    rw [E]
    have d4 : (c.st == 4) = false := by simpa using h4
    clear E h4
    have S1 : Hid (KD w [(w.heap.size, 27, csL c), (w.heap.size + 1, 37, evL ev), (w.heap.size + 1 + 1, 27, csL ⟨0, false, 0, 0, 0, 0, 0, 0, 0, 0, 0, 0, 0, 0, 0⟩)] (((w.alloc (.cells (csL c).toArray 27)).alloc (.cells (evL ev).toArray 37)).alloc (.cells #[.int .i64 0, .bool false, .int .i64 0, .int .i64 0, .int .i64 0, .int .i64 0, .int .i64 0, .int .i64 0, .int .i64 0, .int .i64 0, .int .i64 0, .int .i64 0, .int .i64 0, .int .i64 0, .int .i64 0] 27))) := KD.three w _ _ _ _ _ _
    go_enter Tryd.func42, Tryd.ntmps42
    go_upto_region 1 with fail
    generalize (((w.alloc (.cells (csL c).toArray 27)).alloc (.cells (evL ev).toArray 37)).alloc (.cells #[.int .i64 0, .bool false, .int .i64 0, .int .i64 0, .int .i64 0, .int .i64 0, .int .i64 0, .int .i64 0, .int .i64 0, .int .i64 0, .int .i64 0, .int .i64 0, .int .i64 0, .int .i64 0, .int .i64 0] 27)) = w1 at *
    have c0 : w1.cell? ⟨w.heap.size, 0, none⟩ = some (.int .i64 c.st) := S1.out.cell 0 0 rfl _ rfl
    have c8 : w1.cell? ⟨w.heap.size, 8, none⟩ = some (.int .i64 c.pg) := S1.out.cell 0 8 rfl _ rfl
    have e3 : w1.cell? ⟨w.heap.size + 1, 3, none⟩ = some (.int .i64 ev.a) := S1.out.cell 1 3 rfl _ rfl
    have f8 := S1.out.fz 0 8 rfl
    have lt := S1.out.lt 0 rfl
    go_upto_region 5 with fail
    clear c0 c8 e3 f8 lt
    go_wp2_with (first
    | ((with_reducible refine at_loadT 27 ?_); refine step_load rfl 27 _ rfl (w.heap.size) 0 rfl (csL c) _ (Blk.all (S1.out.at 0 rfl)) Tryd.underlying27 rfl (sizeCsL _) ?_)
    | ((with_reducible refine at_store ?_); refine step_store rfl 27 _ _ rfl (w.heap.size + 1 + 1) 0 27 (csL ⟨0, false, 0, 0, 0, 0, 0, 0, 0, 0, 0, 0, 0, 0, 0⟩) (csL c) rfl rfl (S1.out.at 2 rfl) (Nat.le_refl 15) (sizeCsL _) (csL_one _) ?_; intro wz nz gz))
    refine ret_blk rfl rfl (w.heap.size + 1 + 1) 27 (csL c) _ rfl nz Tryd.underlying27 rfl (sizeCsL _) ?_
    exact ⟨rfl, (S1.out.store 2 rfl nz gz).bb⟩
end Go.Proofs.YtmbbigkpeefjjabDoor
