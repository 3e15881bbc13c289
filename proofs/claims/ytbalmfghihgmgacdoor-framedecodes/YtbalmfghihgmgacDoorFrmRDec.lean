/-
  Ours: the reference's Decode; the walk of FrameDecodes.
-/
import Derived.Test.YtbalmfghihgmgacDoorFrmThere
import Derived.Test.YtbalmfghihgmgacDoorFrmLaw
namespace Go.Proofs.YtbalmfghihgmgacDoor
open Go.RowKit

theorem pay_at {bs : List Nat} {A : Nat} (h : (CrcM.whole (bs.drop A)).1 ≠ 0) : (bs.drop (A + 4)).take ((CrcM.whole (bs.drop A)).1 - 8) = CrcM.pay (bs.drop A) ∧ A + 4 + ((CrcM.whole (bs.drop A)).1 - 8) + 4 ≤ bs.length := by
  obtain ⟨h1, h2, h3, h4, _⟩ := CrcM.whole_pos h
  rw [List.length_drop] at h1 h4
  refine ⟨?_, by omega⟩
  unfold CrcM.pay
  rw [List.drop_drop, h3, Nat.add_sub_cancel]

set_option maxHeartbeats 600000 in
theorem rdecode_at (bs : List Nat) (a : Int) (v : Value) (w : World) (hb : ∀ b ∈ bs, b < 256) (hl : bs.length ≤ 1000000000000) (h : RdB w v bs) :
    Calls Tryd.prog 22 #[v, .int .i64 a] w (NewP w (decL bs a)) := by
  obtain ⟨ao, cap, rfl, hcap, hnil⟩ := h.len
  have hl0 : (bs.map bv).length = bs.length := List.length_map ..
  rw [hl0] at h hcap ⊢
  unfold decL NewP
  by_cases h1 : a < 0
  · rw [if_pos (.inl h1)]
    have d1 : decide (a < 0) = true := decide_eq_true h1
    generalize bs.length = L at *
    clear h hb
    go_enter Tryd.func22, Tryd.ntmps22
    go_wp2_with fail
    go_ret3
    exact ⟨none, 0, rfl, RowV.nil _ _ _, Below.refl _ _⟩
  have d1 : decide (a < 0) = false := decide_eq_false h1
  by_cases h2 : (bs.length : Int) < a
  · rw [if_pos (.inr h2)]
    have d2 : decide ((bs.length : Int) < a) = true := decide_eq_true h2
    generalize bs.length = L at *
    clear h hb
    go_enter Tryd.func22, Tryd.ntmps22
    go_wp2_with fail
    go_ret3
    exact ⟨none, 0, rfl, RowV.nil _ _ _, Below.refl _ _⟩
  have d2 : decide ((bs.length : Int) < a) = false := decide_eq_false h2
  rw [if_neg (by omega)]
  obtain ⟨A, rfl⟩ : ∃ A : Nat, a = (A : Int) := ⟨a.toNat, by omega⟩
  simp only [Int.toNat_natCast]
  have hA : A ≤ bs.length := by omega
  have TH : Hid (Calls Tryd.prog 31 #[.slice ao bs.length cap, .int .i64 (A : Int)] w (ThereIs (bs.drop A) w)) := rthere_at bs A _ w hb hl hA h
  by_cases h3 : (CrcM.whole (bs.drop A)).1 = 0
  · rw [if_pos h3]
    unfold ThereIs at TH
    have e3 : CrcM.whole (bs.drop A) = (0, (CrcM.whole (bs.drop A)).2) := Prod.ext h3 rfl
    rw [there_no e3] at TH
    generalize (CrcM.whole (bs.drop A)).2 = T at *
    generalize bs.length = L at *
    clear h hb e3 h3
    go_enter Tryd.func22, Tryd.ntmps22
    go_wp2_with fail
    refine TH.out.mono ?_
    rintro e w2 ⟨rfl, n, rfl⟩
    go_wp2_with fail
    go_ret3
    exact ⟨none, 0, rfl, RowV.nil _ _ _, below_drewN (Below.refl _ _) n⟩
  · rw [if_neg h3]
    obtain ⟨p1, p2⟩ := pay_at h3
    obtain ⟨_, _, q3, _, q5, _⟩ := CrcM.whole_pos h3
    have e3 : CrcM.whole (bs.drop A) = ((CrcM.whole (bs.drop A)).1 - 8 + 8, 0) := Prod.ext (by simp only; omega) q5
    unfold ThereIs at TH
    rw [there_yes e3] at TH
    have pl := CrcM.pay_len h3
    have PC : Hid (∀ n, Calls Tryd.prog 32 #[.slice ao bs.length cap, .int .i64 ((A : Int) + 4), .int .i64 (((CrcM.whole (bs.drop A)).1 - 8 : Nat) : Int)] (w.drewN n) (NewB (w.drewN n) (CrcM.pay (bs.drop A)))) := fun n => by
      have := rpiece_at bs (A + 4) ((CrcM.whole (bs.drop A)).1 - 8) _ (w.drewN n) hl (by omega) (Rd.drewN h n)
      rw [p1, show ((A + 4 : Nat) : Int) = (A : Int) + 4 by omega] at this
      exact this
    have S8 : (CrcM.whole (bs.drop A)).1 = (CrcM.pay (bs.drop A)).length + 8 := pl.symm
    rw [S8, Nat.add_sub_cancel] at TH PC
    rw [S8]
    have b1 : A + 4 + (CrcM.pay (bs.drop A)).length + 4 ≤ bs.length := by omega
    have b3 : bs.length ≤ 1000000000000 := hl
    clear p1 p2 q3 q5 e3 pl S8 h3 h hb hl0 hl
    generalize CrcM.pay (bs.drop A) = P at *
    generalize bs.length = L at *
    go_enter Tryd.func22, Tryd.ntmps22
    go_wp2_with fail
    refine TH.out.mono ?_
    rintro e w2 ⟨rfl, n, rfl⟩
    go_wp2_with fail
    refine (PC.out n).mono ?_
    rintro e w3 ⟨v3, rfl, r3, b3⟩
    obtain ⟨a3, c3, rfl, _, _⟩ := (RowV.rd r3).len
    rw [List.length_map] at r3 ⊢
    go_wp2_with fail
    go_ret3
    exact ⟨a3, c3, by simp; omega, r3, below_drewN' b3⟩

theorem decL_len (bs : List Nat) (a : Int) : (decL bs a).1.length ≤ bs.length := by
  unfold decL
  split
  · simp
  · split
    · simp
    · rename_i h
      have := CrcM.pay_len h
      obtain ⟨_, _, h3, h4, _⟩ := CrcM.whole_pos h
      rw [List.length_drop] at h4
      simp only
      omega

set_option maxHeartbeats 2000000 in
theorem decodes_any (bs : List Nat) (a : Int) (v : Value) (w : World) (hb : ∀ b ∈ bs, b < 256) (h : RdB w v bs) (hT : TabS w) :
    Calls Tryd.prog 6 #[v, .int .i64 a] w fun e w' => e = .returned (.bool true) ∧ Below w.heap.size w w' := by
  obtain ⟨ao, cap, rfl, _, _⟩ := h.len
  have hl0 : (bs.map bv).length = bs.length := List.length_map ..
  rw [hl0] at h ⊢
  by_cases hbig : (6000000 : Int) < (bs.length : Int)
  · generalize bs.length = L at *
    clear h hb hT
    go_enter Tryd.func6, Tryd.ntmps6
    go_wp2_with fail
    go_ret
    exact ⟨rfl, Below.refl _ _⟩
  · have R0 : Hid (∀ w', Below w.heap.size w w' → Calls Tryd.prog 21 #[.slice ao bs.length cap] w' (NewB w' (roomL bs))) := fun w' b => roomy_at bs _ w' (by omega) (Rd.later h b)
    have RD : Hid (∀ w', Below w.heap.size w w' → Calls Tryd.prog 22 #[.slice ao bs.length cap, .int .i64 a] w' (NewP w' (decL bs a))) := fun w' b => rdecode_at bs a _ w' hb (by omega) (Rd.later h b)
    have TT : Hid (∀ w', Below w.heap.size w w' → TabS w') := fun w' b => hT.below b
    have HB : Hid (∀ b ∈ bs, b < 256) := hb
    have HL : Hid (bs.length ≤ 6000000) := by show _ ≤ _; omega
    have HT : Hid ((roomL bs).take bs.length = bs) := roomL_take bs
    have HRL : Hid ((roomL bs).length = bs.length + 5) := roomL_len bs
    have HRB : Hid (∀ b ∈ roomL bs, b < 256) := by
      intro b hb'
      rcases List.mem_append.1 hb' with h1 | h1
      · exact hb b h1
      · simp [marks5] at h1; omega
    have lL : bs.length ≤ 6000000 := HL.out
    have HD := decL_len bs a
    clear h hT hb hl0 hbig
    obtain ⟨L, hL⟩ : ∃ L, bs.length = L := ⟨_, rfl⟩
    rw [hL] at R0 RD HL HT HRL lL HD ⊢
    have HLL : Hid (bs.length = L) := hL
    clear hL
    have d0 : ¬ (6000000 : Int) < (L : Int) := by omega
    have DC1 : Hid (∀ w' v, TabS w' → RdB w' v bs → Calls Tryd.prog 15 #[v, .int .i64 a] w' (NewP w' (decL bs a))) := fun w' v h1 h2 => decode_at bs a v w' HB.out (by have := HLL.out; omega) h2 h1
    generalize decL bs a = D at *
    obtain ⟨P, q, t⟩ := D
    simp only at HD
    have q1 : (q != q) = false := by simp
    have q2 : ((t : Int) != (t : Int)) = false := by simp
    go_enter Tryd.func6, Tryd.ntmps6
    go_wp2_with fail
    refine (R0.out _ (Below.refl _ _)).mono ?_
    rintro e w1 ⟨r, rfl, r1, b1⟩
    obtain ⟨ro, rc, rfl, hrc, _⟩ := (RowV.rd r1).len
    rw [List.length_map, HRL.out] at r1 hrc ⊢
    have hrc' : L ≤ rc := by omega
    have CUT : Hid (∀ (w' : World) (ys : List Nat), RowB 5 w.heap.size w' (.slice ro (L + 5) rc) ys → RdB w' (.slice ro L rc) (ys.take L)) := fun w' ys hy => by
      have := Rd.cut (k := L) (RowV.rd hy) (by omega)
      rw [← List.map_take] at this; exact this
    have C1 : Hid (RdB w1 (.slice ro L rc) bs) := by
      have := CUT.out w1 _ r1
      rw [HT.out] at this; exact this
    have R1 : Hid (RowB 5 w.heap.size w1 (.slice ro (L + 5) rc) (roomL bs)) := r1
    have B1 : Hid (Below w.heap.size w w1) := b1
    clear r1 b1
    go_wp2_with fail
    refine (DC1.out _ _ (TT.out _ B1.out) C1.out).mono ?_
    rintro e w2 ⟨a2, c2, rfl, o2, b2⟩
    simp only at o2 ⊢
    have B2 : Hid (Below w.heap.size w w2) := below_trans B1.out b2
    have R2 : Hid (RowB 5 w.heap.size w2 (.slice ro (L + 5) rc) (roomL bs)) := RowV.later R1.out b2
    have O2 : Hid (RowB 5 w1.heap.size w2 (.slice a2 P.length c2) P) := o2
    have S2 : Hid (w1.heap.size ≤ w2.heap.size) := b2.size
    have RB : Hid (∀ g, (Value.slice ro (L + 5) rc).ownBlock = some g → g < w1.heap.size) := fun g hg => R1.out.block_lt hg
    clear o2 b2 C1 B1
    go_wp2_with fail
    refine (RD.out _ B2.out).mono ?_
    rintro e w3 ⟨a3, c3, rfl, o3, b3⟩
    simp only at o3 ⊢
    have B3 : Hid (Below w.heap.size w w3) := below_trans B2.out b3
    have R3 : Hid (RowB 5 w.heap.size w3 (.slice ro (L + 5) rc) (roomL bs)) := RowV.later R2.out b3
    have O3 : Hid (RowB 5 w1.heap.size w3 (.slice a2 P.length c2) P) := RowV.later O2.out b3
    have V3 : Hid (RowB 5 w1.heap.size w3 (.slice a3 P.length c3) P) := o3.mono S2.out
    clear o3 b3 R2 O2
    go_wp2_with fail
    refine (same_at P P _ _ w3 (by omega) (RowV.rd O3.out) (RowV.rd V3.out)).mono ?_
    rintro e w4 ⟨rfl, n4, rfl⟩
    rw [decide_eq_true rfl]
    go_wp2_with fail
    refine (R0.out _ (below_drewN B3.out n4)).mono ?_
    rintro e w6 ⟨r6, rfl, o6, b6⟩
    have W6 : Hid (Below w.heap.size w w6) := below_trans (below_drewN B3.out n4) b6
    have P6 : Hid (RowB 5 w.heap.size w6 (.slice ro (L + 5) rc) (roomL bs)) := RowV.later (RowV.drewN R3.out n4) b6
    have O6 : Hid (RdB w6 r6 (roomL bs)) := RowV.rd o6
    have X6 : Hid (RowB 5 w1.heap.size w6 (.slice a2 P.length c2) P) := RowV.later (RowV.drewN O3.out n4) b6
    have Y6 : Hid (RowB 5 w1.heap.size w6 (.slice a3 P.length c3) P) := RowV.later (RowV.drewN V3.out n4) b6
    obtain ⟨a6, c6, rfl, _, _⟩ := O6.out.len
    rw [List.length_map, HRL.out] at O6 ⊢
    clear o6 b6 R3 O3 V3
    go_wp2_with fail
    refine (same_at (roomL bs) (roomL bs) _ _ w6 (by have := HRL.out; omega) (RowV.rd P6.out) O6.out).mono ?_
    rintro e w7 ⟨rfl, n7, rfl⟩
    rw [decide_eq_true rfl]
    go_wp2_with fail
    refine (turned_at (roomL bs) L w.heap.size _ _ (by have := HRL.out; omega) (by have := HRL.out; omega) HRB.out (RowV.drewN P6.out n7)).mono ?_
    rintro e w8 ⟨u, rfl, u8, p8, g8⟩
    have W8 : Hid (Below w.heap.size w w8) := below_grown (below_drewN W6.out n7) (RowV.drewN P6.out n7) (Nat.le_refl _) (below_drewN W6.out n7).size g8
    have hU : Hid (∀ b ∈ (turnL (roomL bs) L).take L, b < 256) := fun b hb => turnL_lt HRB.out L b (List.mem_of_mem_take hb)
    have lU : Hid (((turnL (roomL bs) L).take L).length = L) := by show _ = _; rw [List.length_take, turnL_len, HRL.out]; omega
    have C8 : Hid (RdB w8 (.slice ro L rc) ((turnL (roomL bs) L).take L)) := CUT.out _ _ p8
    have U8 : Hid (RdB w8 u ((turnL (roomL bs) L).take L)) := RowV.rd u8
    have X8 : Hid (RowB 5 w1.heap.size w8 (.slice a2 P.length c2) P) := RowV.kept (RowV.drewN X6.out n7) g8 (fun g hg e => by have := RB.out g e; have := X6.out.block_ge hg; omega)
    have Y8 : Hid (RowB 5 w1.heap.size w8 (.slice a3 P.length c3) P) := RowV.kept (RowV.drewN Y6.out n7) g8 (fun g hg e => by have := RB.out g e; have := Y6.out.block_ge hg; omega)
    obtain ⟨a8, c8, rfl, _, _⟩ := U8.out.len
    rw [List.length_map, lU.out] at U8 ⊢
    clear u8 p8 g8 P6 O6 W6 X6 Y6
    generalize (turnL (roomL bs) L).take L = ys at *
    have HD2 := decL_len ys a
    have DC2 : Hid (∀ w' v, TabS w' → RdB w' v ys → Calls Tryd.prog 15 #[v, .int .i64 a] w' (NewP w' (decL ys a))) := fun w' v h1 h2 => decode_at ys a v w' hU.out (by have := lU.out; omega) h2 h1
    have DR2 : Hid (∀ w' v, RdB w' v ys → Calls Tryd.prog 22 #[v, .int .i64 a] w' (NewP w' (decL ys a))) := fun w' v h2 => rdecode_at ys a v w' hU.out (by have := lU.out; omega) h2
    rw [lU.out] at HD2
    generalize decL ys a = E at *
    obtain ⟨P', q', t'⟩ := E
    simp only at HD2
    have q3 : (q' == q') = true := by simp
    have q4 : ((t' : Int) == (t' : Int)) = true := by simp
    go_wp2_with fail
    refine (DC2.out _ _ (TT.out _ W8.out) C8.out).mono ?_
    rintro e w9 ⟨a9, c9, rfl, o9, b9⟩
    simp only at o9 ⊢
    have W9 : Hid (Below w.heap.size w w9) := below_trans W8.out b9
    have U9 : Hid (RdB w9 (.slice a8 L c8) ys) := Rd.later U8.out b9
    have X9 : Hid (RowB 5 w1.heap.size w9 (.slice a2 P.length c2) P) := RowV.later X8.out b9
    have Y9 : Hid (RowB 5 w1.heap.size w9 (.slice a3 P.length c3) P) := RowV.later Y8.out b9
    have O9 : Hid (RdB w9 (.slice a9 P'.length c9) P') := RowV.rd o9
    clear o9 b9 X8 Y8 U8 C8
    go_wp2_with fail
    refine (DR2.out _ _ U9.out).mono ?_
    rintro e w10 ⟨a10, c10, rfl, o10, b10⟩
    simp only at o10 ⊢
    have W10 : Hid (Below w.heap.size w w10) := below_trans W9.out b10
    have X10 : Hid (RdB w10 (.slice a2 P.length c2) P) := RowV.rd (RowV.later X9.out b10)
    have Y10 : Hid (RdB w10 (.slice a3 P.length c3) P) := RowV.rd (RowV.later Y9.out b10)
    have O10 : Hid (RdB w10 (.slice a9 P'.length c9) P') := Rd.later O9.out b10
    have V10 : Hid (RdB w10 (.slice a10 P'.length c10) P') := RowV.rd o10
    clear o10 b10 X9 Y9 U9 O9
    go_wp2_with fail
    refine (same_at P' P' _ _ w10 (by omega) O10.out V10.out).mono ?_
    rintro e w11 ⟨rfl, n11, rfl⟩
    rw [decide_eq_true rfl]
    go_wp2_with fail
    refine (same_at P P _ _ _ (by omega) (Rd.drewN X10.out n11) (Rd.drewN Y10.out n11)).mono ?_
    rintro e w12 ⟨rfl, n12, rfl⟩
    rw [decide_eq_true rfl]
    go_wp2_with fail
    go_ret
    exact ⟨rfl, below_drewN W10.out (n11 + n12)⟩
end Go.Proofs.YtbalmfghihgmgacDoor
