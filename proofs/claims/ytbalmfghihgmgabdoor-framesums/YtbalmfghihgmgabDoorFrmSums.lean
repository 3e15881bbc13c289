/-
  Ours: the walk of FrameSums.
-/
import Derived.Test.YtbalmfghihgmgabDoorFrmLaw
import Derived.Test.YtbalmfghihgmgabDoorFrmRef
namespace Go.Proofs.YtbalmfghihgmgabDoor
open Go.RowKit

set_option maxHeartbeats 2000000 in
theorem sums_any (s : Nat) (bs : List Nat) (v : Value) (w : World) (hs : s < 4294967296) (hb : ∀ b ∈ bs, b < 256) (h : RdB w v bs) (hT : TabS w) :
    Calls Tryd.prog 3 #[.int .u32 (s : Int), v] w fun e w' => e = .returned (.bool true) ∧ Below w.heap.size w w' := by
  obtain ⟨ao, cap, rfl, _, _⟩ := h.len
  have hl0 : (bs.map bv).length = bs.length := List.length_map ..
  rw [hl0] at h ⊢
  by_cases hbig : (6000000 : Int) < (bs.length : Int)
  · generalize bs.length = L at *
    go_enter Tryd.func3, Tryd.ntmps3
    go_wp2_with fail
    go_ret
    exact ⟨rfl, Below.refl _ _⟩
  · have R0 : Hid (∀ w', Below w.heap.size w w' → Calls Tryd.prog 4 #[.slice ao bs.length cap] w' (NewB w' (roomL bs))) := fun w' b => roomy_at bs _ w' (by omega) (Rd.later h b)
    have RS : Hid (∀ w', Below w.heap.size w w' → Calls Tryd.prog 6 #[.slice ao bs.length cap] w' fun e w'' => e = .returned (.int .u32 ((CrcM.sum bs : Nat) : Int)) ∧ w'' = w') := fun w' b => rsum_at bs _ w' hb (by omega) (Rd.later h b)
    have RE : Hid (∀ w', Below w.heap.size w w' → Calls Tryd.prog 8 #[.int .u32 (s : Int), .slice ao bs.length cap] w' fun e w'' => e = .returned (.int .u32 ((CrcM.ext s bs : Nat) : Int)) ∧ w'' = w') := fun w' b => rextend_at s bs _ w' hs hb (by omega) (Rd.later h b)
    have TT : Hid (∀ w', Below w.heap.size w w' → TabS w') := fun w' b => hT.below b
    have HB : Hid (∀ b ∈ bs, b < 256) := hb
    have HL : Hid (bs.length ≤ 6000000) := by show _ ≤ _; omega
    have HT : Hid ((roomL bs).take bs.length = bs) := roomL_take bs
    have HRL : Hid ((roomL bs).length = bs.length + 5) := roomL_len bs
    have HRB : Hid (∀ b ∈ roomL bs, b < 256) := by
      intro b hb'
      rcases List.mem_append.1 hb' with h1 | h1
      · exact hb b h1
      · simp [marks5] at h1; omega
    have lL : bs.length ≤ 6000000 := HL.out
    clear h hT hb hl0 hbig
    obtain ⟨L, hL⟩ : ∃ L, bs.length = L := ⟨_, rfl⟩
    rw [hL] at R0 RS RE HL HT HRL lL ⊢
    have HLL : Hid (bs.length = L) := hL
    clear hL
    have d0 : ¬ (6000000 : Int) < (L : Int) := by omega
    have q1 : (((CrcM.sum bs : Nat) : Int) != ((CrcM.sum bs : Nat) : Int)) = false := by simp
    have q2 : (((CrcM.ext s bs : Nat) : Int) != ((CrcM.ext s bs : Nat) : Int)) = false := by simp
    go_enter Tryd.func3, Tryd.ntmps3
    go_wp2_with fail
    refine (R0.out _ (Below.refl _ _)).mono ?_
    rintro e w1 ⟨r, rfl, r1, b1⟩
    obtain ⟨ro, rc, rfl, hrc, _⟩ := (RowV.rd r1).len
    rw [List.length_map, HRL.out] at r1 hrc ⊢
    have hrc' : L ≤ rc := by omega
    have CUT : Hid (∀ (w' : World) (ys : List Nat), RowB 5 w.heap.size w' (.slice ro (L + 5) rc) ys → RdB w' (.slice ro L rc) (ys.take L)) := fun w' ys hy => by
      have := Rd.cut (k := L) (RowV.rd hy) (by omega)
      rw [← List.map_take] at this; exact this
    have C1 : Hid (RdB w1 (.slice ro L rc) bs) := by
      have := CUT.out w1 _ r1
      rw [HT.out] at this; exact this
    have R1 : Hid (RowB 5 w.heap.size w1 (.slice ro (L + 5) rc) (roomL bs)) := r1
    have B1 : Hid (Below w.heap.size w w1) := b1
    clear r1 b1
    go_wp2_with fail
    refine (sum_at bs _ w1 HB.out (by have := HLL.out; omega) C1.out (TT.out _ B1.out)).mono ?_
    rintro e w2 ⟨rfl, n2, rfl⟩
    go_wp2_with fail
    refine (RS.out _ (below_drewN B1.out n2)).mono ?_
    rintro e w3 ⟨rfl, rfl⟩
    go_wp2_with fail
    refine (extend_at s bs _ _ hs HB.out (by have := HLL.out; omega) (Rd.drewN C1.out n2) (TT.out _ (below_drewN B1.out n2))).mono ?_
    rintro e w4 ⟨rfl, n4, rfl⟩
    go_wp2_with fail
    refine (RE.out _ (below_drewN B1.out (n2 + n4))).mono ?_
    rintro e w5 ⟨rfl, rfl⟩
    go_wp2_with fail
    refine (R0.out _ (below_drewN B1.out (n2 + n4))).mono ?_
    rintro e w6 ⟨r6, rfl, o6, b6⟩
    have hs6 := b6.size
    have W6 : Hid (Below w.heap.size w w6) := below_trans (below_drewN B1.out (n2 + n4)) b6
    have P6 : Hid (RowB 5 w.heap.size w6 (.slice ro (L + 5) rc) (roomL bs)) := RowV.later (RowV.drewN R1.out (n2 + n4)) b6
    have O6 : Hid (RdB w6 r6 (roomL bs)) := RowV.rd o6
    obtain ⟨a6, c6, rfl, _, _⟩ := O6.out.len
    rw [List.length_map, HRL.out] at O6 ⊢
    clear o6 b6 C1 R1
    go_wp2_with fail
    refine (same_at (roomL bs) (roomL bs) _ _ w6 (by have := HRL.out; omega) (RowV.rd P6.out) O6.out).mono ?_
    rintro e w7 ⟨rfl, n7, rfl⟩
    rw [decide_eq_true rfl]
    go_wp2_with fail
    refine (turned_at (roomL bs) L w.heap.size _ _ (by have := HRL.out; omega) (by have := HRL.out; omega) HRB.out (RowV.drewN P6.out n7)).mono ?_
    rintro e w8 ⟨u, rfl, u8, p8, g8⟩
    have W8 : Hid (Below w.heap.size w w8) := below_grown (below_drewN W6.out n7) (RowV.drewN P6.out n7) (Nat.le_refl _) (below_drewN W6.out n7).size g8
    have hU : Hid (∀ b ∈ (turnL (roomL bs) L).take L, b < 256) := fun b hb => turnL_lt HRB.out L b (List.mem_of_mem_take hb)
    have lU : Hid (((turnL (roomL bs) L).take L).length = L) := by show _ = _; rw [List.length_take, turnL_len, HRL.out]; omega
    have C8 : Hid (RdB w8 (.slice ro L rc) ((turnL (roomL bs) L).take L)) := CUT.out _ _ p8
    have U8 : Hid (RdB w8 u ((turnL (roomL bs) L).take L)) := RowV.rd u8
    obtain ⟨a8, c8, rfl, _, _⟩ := U8.out.len
    rw [List.length_map, lU.out] at U8 ⊢
    clear u8 p8 g8 P6 O6 W6
    generalize (turnL (roomL bs) L).take L = ys at *
    have q3 : (((CrcM.sum ys : Nat) : Int) == ((CrcM.sum ys : Nat) : Int)) = true := by simp
    have q4 : (((CrcM.ext s ys : Nat) : Int) == ((CrcM.ext s ys : Nat) : Int)) = true := by simp
    go_wp2_with fail
    refine (sum_at ys _ w8 hU.out (by have := lU.out; omega) C8.out (TT.out _ W8.out)).mono ?_
    rintro e w9 ⟨rfl, n9, rfl⟩
    go_wp2_with fail
    refine (rsum_at ys _ _ hU.out (by have := lU.out; omega) (Rd.drewN U8.out n9)).mono ?_
    rintro e w10 ⟨rfl, rfl⟩
    go_wp2_with fail
    refine (extend_at s ys _ _ hs hU.out (by have := lU.out; omega) (Rd.drewN C8.out n9) (TT.out _ (below_drewN W8.out n9))).mono ?_
    rintro e w11 ⟨rfl, n11, rfl⟩
    go_wp2_with fail
    refine (rextend_at s ys _ _ hs hU.out (by have := lU.out; omega) (Rd.drewN U8.out (n9 + n11))).mono ?_
    rintro e w12 ⟨rfl, rfl⟩
    go_wp2_with fail
    go_ret
    exact ⟨rfl, below_drewN W8.out (n9 + n11)⟩
end Go.Proofs.YtbalmfghihgmgabDoor
