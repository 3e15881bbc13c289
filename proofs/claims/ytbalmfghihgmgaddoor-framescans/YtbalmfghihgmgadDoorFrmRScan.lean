/-
  Ours: the reference's Scan; the walk of FrameScans.
-/
import Derived.Test.YtbalmfghihgmgadDoorFrmThere
import Derived.Test.YtbalmfghihgmgadDoorFrmLaw3
import Derived.Test.YtbalmfghihgmgadDoorFrmCut
namespace Go.Proofs.YtbalmfghihgmgadDoor
open Go.RowKit

theorem pay_at2 {bs : List Nat} {A : Nat} (h : (CrcM.whole (bs.drop A)).1 ≠ 0) : (bs.drop (A + 4)).take ((CrcM.whole (bs.drop A)).1 - 8) = CrcM.pay (bs.drop A) ∧ A + 4 + ((CrcM.whole (bs.drop A)).1 - 8) + 4 ≤ bs.length := by
  obtain ⟨h1, h2, h3, h4, _⟩ := CrcM.whole_pos h
  rw [List.length_drop] at h1 h4
  refine ⟨?_, by omega⟩
  unfold CrcM.pay
  rw [List.drop_drop, h3, Nat.add_sub_cancel]

/-- Where the reference's scan stands. -/
structure Mid (bs : List Nat) (A : Nat) (ps : List (List Nat)) : Prop where
  list : ps ++ (CrcM.scan (bs.drop A)).1 = (CrcM.scan bs).1
  stop : A + (CrcM.scan (bs.drop A)).2.1 = (CrcM.scan bs).2.1
  tail : (CrcM.scan (bs.drop A)).2.2 = (CrcM.scan bs).2.2
theorem Mid.zero (bs : List Nat) : Mid bs 0 [] := ⟨by simp, by simp, by simp⟩
theorem Mid.none {bs : List Nat} {A : Nat} {ps : List (List Nat)} (h : Mid bs A ps) (h0 : (CrcM.whole (bs.drop A)).1 = 0) : ps = (CrcM.scan bs).1 ∧ A = (CrcM.scan bs).2.1 ∧ (CrcM.whole (bs.drop A)).2 = (CrcM.scan bs).2.2 := by
  obtain ⟨h1, h2, h3⟩ := h
  rw [CrcM.scan_none h0] at h1 h2 h3
  exact ⟨by simpa using h1, by simpa using h2, h3⟩
theorem Mid.some {bs : List Nat} {A : Nat} {ps : List (List Nat)} (h : Mid bs A ps) (h0 : (CrcM.whole (bs.drop A)).1 ≠ 0) : Mid bs (A + (CrcM.whole (bs.drop A)).1) (ps ++ [CrcM.pay (bs.drop A)]) := by
  obtain ⟨h1, h2, h3⟩ := h
  rw [CrcM.scan_some h0] at h1 h2 h3
  simp only [List.drop_drop] at h1 h2 h3
  exact ⟨by rw [List.append_assoc]; exact h1, by omega, h3⟩

set_option maxRecDepth 100000 in
set_option maxHeartbeats 2000000 in
theorem rscan_at (bs : List Nat) (v : Value) (w : World) (hb : ∀ b ∈ bs, b < 256) (hl : bs.length ≤ 1000000000) (h : RdB w v bs) : Calls Tryd.prog 8 #[v] w (ScanIs bs w) := by
  obtain ⟨i0, hi, hz0, hz1, hz2⟩ := info_parts infoS
  obtain ⟨ao, cap, rfl, hcap, _⟩ := h.len
  have hl0 : (bs.map bv).length = bs.length := List.length_map ..
  rw [hl0] at h hcap ⊢
  have TH : Hid (∀ (A : Nat) w', A ≤ bs.length → Below w.heap.size w w' → Calls Tryd.prog 22 #[.slice ao bs.length cap, .int .i64 (A : Int)] w' (ThereIs (bs.drop A) w')) := fun A w' hA hb' => rthere_at bs A _ w' hb (by omega) hA (Rd.later h hb')
  have PC : Hid (∀ (A N : Nat) w', A + N ≤ bs.length → Below w.heap.size w w' → Calls Tryd.prog 23 #[.slice ao bs.length cap, .int .i64 (A : Int), .int .i64 (N : Int)] w' (NewB w' ((bs.drop A).take N))) := fun A N w' hA hb' => rpiece_at bs A N _ w' (by omega) hA (Rd.later h hb')
  have FIN : Hid (∀ w' a n c A T, n = (CrcM.scan bs).1.length → A = (CrcM.scan bs).2.1 → T = (CrcM.scan bs).2.2 → RowsV w.heap.size w' (.slice a n c) (CrcM.scan bs).1 → Below w.heap.size w w' → ScanIs bs w (.returned (.tuple #[.slice a n c, .int .i64 ((A : Nat) : Int), .int .i64 ((T : Nat) : Int)])) w') := fun w' a n c A T e1 e2 e3 h1 h2 => by
    subst e1 e2 e3
    exact ⟨a, c, rfl, h1, h2⟩
  have LL : Hid (bs.length ≤ 1000000000) := hl
  clear h hb hl0
  generalize hL : bs.length = L at *
  have HL : Hid (bs.length = L) := hL
  clear hL
  go_enter Tryd.func8, Tryd.ntmps8
  go_wp2_with fail
  go_loopw [5, 6, 7, 8] (fun v va vt vk wr => ∃ (k A : Nat) (ps : List (List Nat)), vk = .int .i64 (k : Int) ∧ va = .int .i64 (A : Int) ∧ A ≤ L ∧ 8 * k ≤ A ∧ Hid (ps.length = k) ∧ Hid (Mid bs A ps) ∧ Hid (RowsV w.heap.size wr v ps) ∧ Below w.heap.size w wr) (fun _ va _ _ _ => L - (intOf va).toNat)
  case atStart => exact ⟨0, 0, [], rfl, rfl, by omega, by omega, rfl, Mid.zero bs, ⟨[], RowV.nil _ _ _, rfl, (fun x hx => nomatch hx), List.Pairwise.nil⟩, Below.refl _ _⟩
  case round =>
    obtain ⟨k, A, ps, rfl, rfl, hA, hk, hpk, hmid, hrow, hnx⟩ := hrel
    have hsz := hnx.size
    have dk : (k : Int) ≤ (L : Int) := by omega
    by_cases h3 : (CrcM.whole (bs.drop A)).1 = 0
    · have T1 := TH.out A wr hA hnx
      unfold ThereIs at T1
      have e3 : CrcM.whole (bs.drop A) = (0, (CrcM.whole (bs.drop A)).2) := Prod.ext h3 rfl
      rw [there_no e3] at T1
      obtain ⟨m1, m2, m3⟩ := hmid.out.none h3
      have T1' : Hid (Calls Tryd.prog 22 #[.slice ao L cap, .int .i64 (A : Int)] wr fun e w' => e = .returned (.tuple #[.bool false, .int .i64 ((0 : Nat) : Int), .int .i64 (((CrcM.whole (bs.drop A)).2 : Nat) : Int)]) ∧ ∃ n, w' = wr.drewN n) := T1
      have HR := hrow.out
      rw [m1] at HR
      obtain ⟨a, c, e, _⟩ := HR.rd.len
      subst e
      have FN : Hid (∀ n, ScanIs bs w (.returned (.tuple #[.slice a (CrcM.scan bs).1.length c, .int .i64 (A : Int), .int .i64 (((CrcM.whole (bs.drop A)).2 : Nat) : Int)])) (wr.drewN n)) := fun n => by
        refine FIN.out _ a _ c A _ rfl m2 m3 ?_ (below_drewN hnx n)
        obtain ⟨vs, k1, k2, k3, k4⟩ := HR.row
        exact ⟨vs, RowV.drewN k1 n, k2, fun x hx => RowV.drewN (k3 x hx) n, k4⟩
      clear T1 HR m1 m2 m3 e3 h3 hmid hrow
      generalize (CrcM.whole (bs.drop A)).2 = T at *
      go_wp2_with fail
      refine T1'.out.mono ?_
      rintro e w2 ⟨rfl, n, rfl⟩
      go_wp2_with fail
      go_ret3
      exact FN.out n
    · have T1 := TH.out A wr hA hnx
      unfold ThereIs at T1
      obtain ⟨p1, p2⟩ := pay_at2 h3
      obtain ⟨_, _, q3, _, q5, _⟩ := CrcM.whole_pos h3
      have e3 : CrcM.whole (bs.drop A) = ((CrcM.whole (bs.drop A)).1 - 8 + 8, 0) := Prod.ext (by simp only; omega) q5
      rw [there_yes e3] at T1
      have pl := CrcM.pay_len h3
      have S8 : (CrcM.whole (bs.drop A)).1 = (CrcM.pay (bs.drop A)).length + 8 := pl.symm
      have hM : Mid bs (A + (CrcM.whole (bs.drop A)).1) (ps ++ [CrcM.pay (bs.drop A)]) := hmid.out.some h3
      rw [S8] at hM
      rw [S8, Nat.add_sub_cancel] at T1 p1 p2
      have HM : Hid (Mid bs (A + ((CrcM.pay (bs.drop A)).length + 8)) (ps ++ [CrcM.pay (bs.drop A)])) := hM
      have T1' : Hid (Calls Tryd.prog 22 #[.slice ao L cap, .int .i64 (A : Int)] wr fun e w' => e = .returned (.tuple #[.bool true, .int .i64 (((CrcM.pay (bs.drop A)).length : Nat) : Int), .int .i64 ((0 : Nat) : Int)]) ∧ ∃ n, w' = wr.drewN n) := T1
      have PC' : Hid (∀ n, Calls Tryd.prog 23 #[.slice ao L cap, .int .i64 ((A : Int) + 4), .int .i64 (((CrcM.pay (bs.drop A)).length : Nat) : Int)] (wr.drewN n) (NewB (wr.drewN n) (CrcM.pay (bs.drop A)))) := fun n => by
        have := PC.out (A + 4) (CrcM.pay (bs.drop A)).length (wr.drewN n) (by have := HL.out; omega) (below_drewN hnx n)
        rw [p1, show ((A + 4 : Nat) : Int) = (A : Int) + 4 by omega] at this
        exact this
      have b1 : A + 4 + (CrcM.pay (bs.drop A)).length + 4 ≤ L := by have := HL.out; omega
      have big := LL.out
      clear T1 p1 p2 q3 q5 e3 pl S8 h3 hM hmid
      generalize CrcM.pay (bs.drop A) = P at *
      obtain ⟨vs, q1, q2, q3, q4⟩ := hrow.out.row
      have HLT : Hid (∀ y ∈ vs, ∀ g, y.ownBlock = some g → g < wr.heap.size) := fun y hy g hg => by
        obtain ⟨q, hq⟩ := zip_mem q2 hy
        exact (q3 _ hq).block_lt hg
      have Q3 : Hid (∀ y ∈ vs.zip ps, RowB 5 w.heap.size wr y.1 y.2) := q3
      have Q4 : Hid (vs.Pairwise (fun a b => ∀ g, a.ownBlock = some g → b.ownBlock ≠ some g)) := q4
      have Q2 : Hid (vs.length = ps.length) := q2
      have Q1 : Hid (RowV 22 w.heap.size wr u5 vs) := q1
      clear q1 q2 q3 q4 hrow
      go_wp2_with fail
      refine T1'.out.mono ?_
      rintro e w2 ⟨rfl, n2, rfl⟩
      go_wp2_with fail
      refine (PC'.out n2).mono ?_
      rintro e w1 ⟨v1, rfl, r1, b1'⟩
      have B1 : Below w.heap.size w w1 := below_trans (below_drewN hnx n2) b1'
      have hs1 := B1.size
      have l1 : vs.length + 1 ≤ maxLen := by have := hpk.out; have := Q2.out; unfold maxLen; omega
      have l2 : (vs.length + 1) * 24 ≤ 140737488355328 := by have := hpk.out; have := Q2.out; omega
      have own1 : RowV 22 w.heap.size w1 u5 vs := RowV.later (RowV.drewN Q1.out n2) b1'
      have HP : Hid (∀ w2 v', RowV 22 w.heap.size w2 v' (vs ++ [v1]) → w1.grownBy w2 u5.ownBlock → RowsV w.heap.size w2 v' (ps ++ [P])) := fun w2 v' r g => by
        refine RowsV.push own1 Q2.out (fun y hy => RowV.later (RowV.drewN (Q3.out y hy) n2) b1') Q4.out (r1.mono (by have := hnx.size; exact this)) (fun y hy g' hg e => ?_) r g
        have h5 := HLT.out y hy g' hg
        have h6 := r1.block_ge e
        have h7 : (wr.drewN n2).heap.size = wr.heap.size := rfl
        omega
      obtain ⟨a2, c2, rfl, _, _⟩ := (RowV.rd r1).len
      rw [List.length_map] at HP ⊢
      have HPL : Hid ((ps ++ [P]).length = k + 1) := by show _ = _; rw [List.length_append, hpk.out]; rfl
      clear r1 b1' T1' PC' Q1 Q2 Q3 Q4 HLT
      generalize P.length = X at *
      go_wp2_with (at_builtin; refine wpList_pushV rfl (.tmp 31) (.tmp 37) 24 rfl 22 i0 (.slice none 0 0) 24 underS hi hz0 hz1 hz2 rfl w.heap.size _ _ _ rfl rfl own1 hs1 rfl l1 l2 ?_; intro v' w2 hown' hgr)
      have HR2 : Hid (RowsV w.heap.size w2 v' (ps ++ [P])) := HP.out w2 v' hown' hgr
      have B2 : Below w.heap.size w w2 := below_grown B1 own1 (Nat.le_refl _) hs1 hgr
      clear HP hown' hgr own1
      go_roundw
      case rel => exact ⟨k + 1, A + (X + 8), ps ++ [P], by go_num, by go_num, by omega, by omega, HPL, HM, HR2, B2⟩
      case measure => simp [intOf]; omega

theorem RowsV.grown {base : Nat} {w w' : World} {v : Value} {ps : List (List Nat)} {row : Option Nat} (h : RowsV base w v ps) (k : w.grownBy w' row) (hm : ∀ g, row = some g → g < base) : RowsV base w' v ps := RowsV.kp h (Kp.of_grown k) hm
theorem RowsV.drewN {base : Nat} {w : World} {v : Value} {ps : List (List Nat)} (h : RowsV base w v ps) (n : Nat) : RowsV base (w.drewN n) v ps := by
  obtain ⟨vs, k1, k2, k3, k4⟩ := h.row
  exact ⟨vs, RowV.drewN k1 n, k2, fun x hx => RowV.drewN (k3 x hx) n, k4⟩

set_option maxRecDepth 100000 in
set_option maxHeartbeats 2000000 in
theorem scans_any (bs : List Nat) (v : Value) (w : World) (hb : ∀ b ∈ bs, b < 256) (h : RdB w v bs) (hT : TabS w) :
    Calls Tryd.prog 3 #[v] w fun e w' => e = .returned (.bool true) ∧ Below w.heap.size w w' := by
  obtain ⟨ao, cap, rfl, _, _⟩ := h.len
  have hl0 : (bs.map bv).length = bs.length := List.length_map ..
  rw [hl0] at h ⊢
  by_cases hbig : (6000000 : Int) < (bs.length : Int)
  · generalize bs.length = L at *
    clear h hb hT
    go_enter Tryd.func3, Tryd.ntmps3
    go_wp2_with fail
    go_ret
    exact ⟨rfl, Below.refl _ _⟩
  · have R0 : Hid (∀ w', Below w.heap.size w w' → Calls Tryd.prog 6 #[.slice ao bs.length cap] w' (NewB w' (roomL bs))) := fun w' b => roomy_at bs _ w' (by omega) (Rd.later h b)
    have SC : Hid (∀ (l : List Nat) w' v, l.length = bs.length → (∀ b ∈ l, b < 256) → Below w.heap.size w w' → RdB w' v l → Calls Tryd.prog 7 #[v] w' (ScanIs l w')) := fun l w' v e1 e2 b hr => scan_at l v w' e2 (by omega) hr (hT.below b)
    have RS : Hid (∀ (l : List Nat) w' v, l.length = bs.length → (∀ b ∈ l, b < 256) → RdB w' v l → Calls Tryd.prog 8 #[v] w' (ScanIs l w')) := fun l w' v e1 e2 hr => rscan_at l v w' e2 (by omega) hr
    have AL : Hid (∀ (l : List Nat) w' va vb, l.length = bs.length → RdR w' va (CrcM.scan l).1 → RdR w' vb (CrcM.scan l).1 → Calls Tryd.prog 9 #[va, vb] w' fun e w'' => e = .returned (.bool true) ∧ ∃ n, w'' = w'.drewN n) := fun l w' va vb e1 h1 h2 => alike_at _ va vb w' (by have := scan_count l; omega) (fun x hx => by have := scan_small _ l (Nat.le_refl _) x hx; omega) h1 h2
    have H0 : Hid (∀ w', Below w.heap.size w w' → RdB w' (.slice ao bs.length cap) bs) := fun w' b => Rd.later h b
    have HB : Hid (∀ b ∈ bs, b < 256) := hb
    have HT : Hid ((roomL bs).take bs.length = bs) := roomL_take bs
    have HRL : Hid ((roomL bs).length = bs.length + 5) := roomL_len bs
    have HRB : Hid (∀ b ∈ roomL bs, b < 256) := by
      intro b hb'
      rcases List.mem_append.1 hb' with h1 | h1
      · exact hb b h1
      · simp [marks5] at h1; omega
    clear h hT hb hl0
    obtain ⟨L, hL⟩ : ∃ L, bs.length = L := ⟨_, rfl⟩
    rw [hL] at R0 SC RS AL HT HRL H0 hbig ⊢
    have HLL : Hid (bs.length = L) := hL
    have lL : L ≤ 6000000 := by omega
    clear hL
    unfold ScanIs at SC RS
    have SCB := fun w' v => SC.out bs w' v HLL.out HB.out
    have RSB := fun w' v => RS.out bs w' v HLL.out HB.out
    have ALB := fun w' va vb => AL.out bs w' va vb HLL.out
    generalize (CrcM.scan bs).1 = PS at *
    generalize (CrcM.scan bs).2.1 = E at *
    generalize (CrcM.scan bs).2.2 = T at *
    have SCB' : Hid (∀ w' v, Below w.heap.size w w' → RdB w' v bs → Calls Tryd.prog 7 #[v] w' fun e w'' => ∃ a c, e = .returned (.tuple #[.slice a PS.length c, .int .i64 (E : Int), .int .i64 (T : Int)]) ∧ RowsV w'.heap.size w'' (.slice a PS.length c) PS ∧ Below w'.heap.size w' w'') := SCB
    have RSB' : Hid (∀ w' v, RdB w' v bs → Calls Tryd.prog 8 #[v] w' fun e w'' => ∃ a c, e = .returned (.tuple #[.slice a PS.length c, .int .i64 (E : Int), .int .i64 (T : Int)]) ∧ RowsV w'.heap.size w'' (.slice a PS.length c) PS ∧ Below w'.heap.size w' w'') := RSB
    have ALB' : Hid (∀ w' va vb, RdR w' va PS → RdR w' vb PS → Calls Tryd.prog 9 #[va, vb] w' fun e w'' => e = .returned (.bool true) ∧ ∃ n, w'' = w'.drewN n) := ALB
    clear SCB RSB ALB
    generalize PS.length = NP at *
    have q1 : ((E : Int) != (E : Int)) = false := by simp
    have q2 : ((T : Int) != (T : Int)) = false := by simp
    go_enter Tryd.func3, Tryd.ntmps3
    go_wp2_with fail
    refine (R0.out _ (Below.refl _ _)).mono ?_
    rintro e w1 ⟨r, rfl, r1, b1⟩
    obtain ⟨ro, rc, rfl, hrc, _⟩ := (RowV.rd r1).len
    rw [List.length_map, HRL.out] at r1 hrc ⊢
    have hrc' : L ≤ rc := by omega
    have CUT : Hid (∀ (w' : World) (ys : List Nat), RowB 5 w.heap.size w' (.slice ro (L + 5) rc) ys → RdB w' (.slice ro L rc) (ys.take L)) := fun w' ys hy => by
      have := Rd.cut (k := L) (RowV.rd hy) (by omega)
      rw [← List.map_take] at this; exact this
    have C1 : Hid (RdB w1 (.slice ro L rc) bs) := by
      have := CUT.out w1 _ r1
      rw [HT.out] at this; exact this
    have R1 : Hid (RowB 5 w.heap.size w1 (.slice ro (L + 5) rc) (roomL bs)) := r1
    have B1 : Hid (Below w.heap.size w w1) := b1
    have RB : Hid (∀ g, (Value.slice ro (L + 5) rc).ownBlock = some g → g < w1.heap.size) := fun g hg => r1.block_lt hg
    clear r1 b1
    go_wp2_with fail
    refine (SCB'.out _ _ B1.out C1.out).mono ?_
    rintro e w2 ⟨a2, c2, rfl, o2, b2⟩
    have B2 : Hid (Below w.heap.size w w2) := below_trans B1.out b2
    have R2 : Hid (RowB 5 w.heap.size w2 (.slice ro (L + 5) rc) (roomL bs)) := RowV.later R1.out b2
    have O2 : Hid (RowsV w1.heap.size w2 (.slice a2 NP c2) PS) := o2
    have S2 : Hid (w1.heap.size ≤ w2.heap.size) := b2.size
    clear o2 b2 C1 B1 SCB'
    go_wp2_with fail
    refine (RSB'.out _ _ (H0.out _ B2.out)).mono ?_
    rintro e w3 ⟨a3, c3, rfl, o3, b3⟩
    have B3 : Hid (Below w.heap.size w w3) := below_trans B2.out b3
    have R3 : Hid (RowB 5 w.heap.size w3 (.slice ro (L + 5) rc) (roomL bs)) := RowV.later R2.out b3
    have O3 : Hid (RowsV w1.heap.size w3 (.slice a2 NP c2) PS) := O2.out.later b3
    have V3 : Hid (RowsV w1.heap.size w3 (.slice a3 NP c3) PS) := o3.mono S2.out
    clear o3 b3 R2 O2 RSB'
    go_wp2_with fail
    refine (ALB'.out _ _ _ O3.out.rd V3.out.rd).mono ?_
    rintro e w4 ⟨rfl, n4, rfl⟩
    go_wp2_with fail
    refine (R0.out _ (below_drewN B3.out n4)).mono ?_
    rintro e w6 ⟨r6, rfl, o6, b6⟩
    have W6 : Hid (Below w.heap.size w w6) := below_trans (below_drewN B3.out n4) b6
    have P6 : Hid (RowB 5 w.heap.size w6 (.slice ro (L + 5) rc) (roomL bs)) := RowV.later (RowV.drewN R3.out n4) b6
    have O6 : Hid (RdB w6 r6 (roomL bs)) := RowV.rd o6
    have X6 : Hid (RowsV w1.heap.size w6 (.slice a2 NP c2) PS) := (O3.out.drewN n4).later b6
    have Y6 : Hid (RowsV w1.heap.size w6 (.slice a3 NP c3) PS) := (V3.out.drewN n4).later b6
    obtain ⟨a6, c6, rfl, _, _⟩ := O6.out.len
    rw [List.length_map, HRL.out] at O6 ⊢
    clear o6 b6 R3 O3 V3
    go_wp2_with fail
    refine (same_at (roomL bs) (roomL bs) _ _ w6 (by have := HRL.out; omega) (RowV.rd P6.out) O6.out).mono ?_
    rintro e w7 ⟨rfl, n7, rfl⟩
    rw [decide_eq_true rfl]
    go_wp2_with fail
    refine (turned_at (roomL bs) L w.heap.size _ _ (by have := HRL.out; omega) (by have := HRL.out; omega) HRB.out (RowV.drewN P6.out n7)).mono ?_
    rintro e w8 ⟨u, rfl, u8, p8, g8⟩
    have W8 : Hid (Below w.heap.size w w8) := below_grown (below_drewN W6.out n7) (RowV.drewN P6.out n7) (Nat.le_refl _) (below_drewN W6.out n7).size g8
    have hU : Hid (∀ b ∈ (turnL (roomL bs) L).take L, b < 256) := fun b hb => turnL_lt HRB.out L b (List.mem_of_mem_take hb)
    have lU : Hid (((turnL (roomL bs) L).take L).length = L) := by show _ = _; rw [List.length_take, turnL_len, HRL.out]; omega
    have C8 : Hid (RdB w8 (.slice ro L rc) ((turnL (roomL bs) L).take L)) := CUT.out _ _ p8
    have U8 : Hid (RdB w8 u ((turnL (roomL bs) L).take L)) := RowV.rd u8
    have X8 : Hid (RowsV w1.heap.size w8 (.slice a2 NP c2) PS) := (X6.out.drewN n7).grown g8 RB.out
    have Y8 : Hid (RowsV w1.heap.size w8 (.slice a3 NP c3) PS) := (Y6.out.drewN n7).grown g8 RB.out
    obtain ⟨a8, c8, rfl, _, _⟩ := U8.out.len
    rw [List.length_map, lU.out] at U8 ⊢
    clear u8 p8 g8 P6 O6 W6 X6 Y6
    generalize (turnL (roomL bs) L).take L = ys at *
    have SCY := fun w' v => SC.out ys w' v lU.out hU.out
    have RSY := fun w' v => RS.out ys w' v lU.out hU.out
    have ALY := fun w' va vb => AL.out ys w' va vb lU.out
    generalize (CrcM.scan ys).1 = PY at *
    generalize (CrcM.scan ys).2.1 = EY at *
    generalize (CrcM.scan ys).2.2 = TY at *
    have SCY' : Hid (∀ w' v, Below w.heap.size w w' → RdB w' v ys → Calls Tryd.prog 7 #[v] w' fun e w'' => ∃ a c, e = .returned (.tuple #[.slice a PY.length c, .int .i64 (EY : Int), .int .i64 (TY : Int)]) ∧ RowsV w'.heap.size w'' (.slice a PY.length c) PY ∧ Below w'.heap.size w' w'') := SCY
    have RSY' : Hid (∀ w' v, RdB w' v ys → Calls Tryd.prog 8 #[v] w' fun e w'' => ∃ a c, e = .returned (.tuple #[.slice a PY.length c, .int .i64 (EY : Int), .int .i64 (TY : Int)]) ∧ RowsV w'.heap.size w'' (.slice a PY.length c) PY ∧ Below w'.heap.size w' w'') := RSY
    have ALY' : Hid (∀ w' va vb, RdR w' va PY → RdR w' vb PY → Calls Tryd.prog 9 #[va, vb] w' fun e w'' => e = .returned (.bool true) ∧ ∃ n, w'' = w'.drewN n) := ALY
    clear SCY RSY ALY SC RS AL
    generalize PY.length = NY at *
    have q3 : ((EY : Int) == (EY : Int)) = true := by simp
    have q4 : ((TY : Int) == (TY : Int)) = true := by simp
    go_wp2_with fail
    refine (SCY'.out _ _ W8.out C8.out).mono ?_
    rintro e w9 ⟨a9, c9, rfl, o9, b9⟩
    have W9 : Hid (Below w.heap.size w w9) := below_trans W8.out b9
    have U9 : Hid (RdB w9 (.slice a8 L c8) ys) := Rd.later U8.out b9
    have X9 : Hid (RowsV w1.heap.size w9 (.slice a2 NP c2) PS) := X8.out.later b9
    have Y9 : Hid (RowsV w1.heap.size w9 (.slice a3 NP c3) PS) := Y8.out.later b9
    have O9 : Hid (RdR w9 (.slice a9 NY c9) PY) := o9.rd
    clear o9 b9 X8 Y8 U8 C8
    go_wp2_with fail
    refine (RSY'.out _ _ U9.out).mono ?_
    rintro e w10 ⟨a10, c10, rfl, o10, b10⟩
    have W10 : Hid (Below w.heap.size w w10) := below_trans W9.out b10
    have X10 : Hid (RdR w10 (.slice a2 NP c2) PS) := (X9.out.later b10).rd
    have Y10 : Hid (RdR w10 (.slice a3 NP c3) PS) := (Y9.out.later b10).rd
    have O10 : Hid (RdR w10 (.slice a9 NY c9) PY) := O9.out.later b10
    have V10 : Hid (RdR w10 (.slice a10 NY c10) PY) := o10.rd
    clear o10 b10 X9 Y9 U9 O9
    go_wp2_with fail
    refine (ALY'.out _ _ _ O10.out V10.out).mono ?_
    rintro e w11 ⟨rfl, n11, rfl⟩
    go_wp2_with fail
    refine (ALB'.out _ _ _ (X10.out.drewN n11) (Y10.out.drewN n11)).mono ?_
    rintro e w12 ⟨rfl, n12, rfl⟩
    go_wp2_with fail
    go_ret
    exact ⟨rfl, below_drewN W10.out (n11 + n12)⟩
end Go.Proofs.YtbalmfghihgmgadDoor
