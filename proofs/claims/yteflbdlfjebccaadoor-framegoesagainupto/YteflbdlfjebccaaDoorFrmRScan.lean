/-
  Ours: the reference's Scan; the walk of FrameScans.
-/
import Derived.Test.YteflbdlfjebccaaDoorFrmThere
import Derived.Test.YteflbdlfjebccaaDoorFrmLaw3
import Derived.Test.YteflbdlfjebccaaDoorFrmCut
namespace Go.Proofs.YteflbdlfjebccaaDoor
open Go.RowKit

theorem pay_at2 {bs : List Nat} {A : Nat} (h : (CrcM.whole (bs.drop A)).1 ≠ 0) : (bs.drop (A + 4)).take ((CrcM.whole (bs.drop A)).1 - 8) = CrcM.pay (bs.drop A) ∧ A + 4 + ((CrcM.whole (bs.drop A)).1 - 8) + 4 ≤ bs.length := by
  obtain ⟨h1, h2, h3, h4, _⟩ := CrcM.whole_pos h
  rw [List.length_drop] at h1 h4
  refine ⟨?_, by omega⟩
  unfold CrcM.pay
  rw [List.drop_drop, h3, Nat.add_sub_cancel]

/-- Where the reference's scan stands. -/
structure Mid (bs : List Nat) (A : Nat) (ps : List (List Nat)) : Prop where
  list : ps ++ (CrcM.scan (bs.drop A)).1 = (CrcM.scan bs).1
  stop : A + (CrcM.scan (bs.drop A)).2.1 = (CrcM.scan bs).2.1
  tail : (CrcM.scan (bs.drop A)).2.2 = (CrcM.scan bs).2.2
theorem Mid.zero (bs : List Nat) : Mid bs 0 [] := ⟨by simp, by simp, by simp⟩
theorem Mid.none {bs : List Nat} {A : Nat} {ps : List (List Nat)} (h : Mid bs A ps) (h0 : (CrcM.whole (bs.drop A)).1 = 0) : ps = (CrcM.scan bs).1 ∧ A = (CrcM.scan bs).2.1 ∧ (CrcM.whole (bs.drop A)).2 = (CrcM.scan bs).2.2 := by
  obtain ⟨h1, h2, h3⟩ := h
  rw [CrcM.scan_none h0] at h1 h2 h3
  exact ⟨by simpa using h1, by simpa using h2, h3⟩
theorem Mid.some {bs : List Nat} {A : Nat} {ps : List (List Nat)} (h : Mid bs A ps) (h0 : (CrcM.whole (bs.drop A)).1 ≠ 0) : Mid bs (A + (CrcM.whole (bs.drop A)).1) (ps ++ [CrcM.pay (bs.drop A)]) := by
  obtain ⟨h1, h2, h3⟩ := h
  rw [CrcM.scan_some h0] at h1 h2 h3
  simp only [List.drop_drop] at h1 h2 h3
  exact ⟨by rw [List.append_assoc]; exact h1, by omega, h3⟩

set_option maxRecDepth 100000 in
set_option maxHeartbeats 2000000 in
theorem rscan_at (bs : List Nat) (v : Value) (w : World) (hb : ∀ b ∈ bs, b < 256) (hl : bs.length ≤ 1000000000) (h : RdB w v bs) : Calls Tryd.prog 4 #[v] w (ScanIs bs w) := by
  obtain ⟨i0, hi, hz0, hz1, hz2⟩ := info_parts infoS
  obtain ⟨ao, cap, rfl, hcap, _⟩ := h.len
  have hl0 : (bs.map bv).length = bs.length := List.length_map ..
  rw [hl0] at h hcap ⊢
  have TH : Hid (∀ (A : Nat) w', A ≤ bs.length → Below w.heap.size w w' → Calls Tryd.prog 12 #[.slice ao bs.length cap, .int .i64 (A : Int)] w' (ThereIs (bs.drop A) w')) := fun A w' hA hb' => rthere_at bs A _ w' hb (by omega) hA (Rd.later h hb')
  have PC : Hid (∀ (A N : Nat) w', A + N ≤ bs.length → Below w.heap.size w w' → Calls Tryd.prog 13 #[.slice ao bs.length cap, .int .i64 (A : Int), .int .i64 (N : Int)] w' (NewB w' ((bs.drop A).take N))) := fun A N w' hA hb' => rpiece_at bs A N _ w' (by omega) hA (Rd.later h hb')
  have FIN : Hid (∀ w' a n c A T, n = (CrcM.scan bs).1.length → A = (CrcM.scan bs).2.1 → T = (CrcM.scan bs).2.2 → RowsV w.heap.size w' (.slice a n c) (CrcM.scan bs).1 → Below w.heap.size w w' → ScanIs bs w (.returned (.tuple #[.slice a n c, .int .i64 ((A : Nat) : Int), .int .i64 ((T : Nat) : Int)])) w') := fun w' a n c A T e1 e2 e3 h1 h2 => by
    subst e1 e2 e3
    exact ⟨a, c, rfl, h1, h2⟩
  have LL : Hid (bs.length ≤ 1000000000) := hl
  clear h hb hl0
  generalize hL : bs.length = L at *
  have HL : Hid (bs.length = L) := hL
  clear hL
  go_enter Tryd.func4, Tryd.ntmps4
  go_wp2_with fail
  go_loopw [5, 6, 7, 8] (fun v va vt vk wr => ∃ (k A : Nat) (ps : List (List Nat)), vk = .int .i64 (k : Int) ∧ va = .int .i64 (A : Int) ∧ A ≤ L ∧ 8 * k ≤ A ∧ Hid (ps.length = k) ∧ Hid (Mid bs A ps) ∧ Hid (RowsV w.heap.size wr v ps) ∧ Below w.heap.size w wr) (fun _ va _ _ _ => L - (intOf va).toNat)
  case atStart => exact ⟨0, 0, [], rfl, rfl, by omega, by omega, rfl, Mid.zero bs, ⟨[], RowV.nil _ _ _, rfl, (fun x hx => nomatch hx), List.Pairwise.nil⟩, Below.refl _ _⟩
  case round =>
    obtain ⟨k, A, ps, rfl, rfl, hA, hk, hpk, hmid, hrow, hnx⟩ := hrel
    have hsz := hnx.size
    have dk : (k : Int) ≤ (L : Int) := by omega
    by_cases h3 : (CrcM.whole (bs.drop A)).1 = 0
    · have T1 := TH.out A wr hA hnx
      unfold ThereIs at T1
      have e3 : CrcM.whole (bs.drop A) = (0, (CrcM.whole (bs.drop A)).2) := Prod.ext h3 rfl
      rw [there_no e3] at T1
      obtain ⟨m1, m2, m3⟩ := hmid.out.none h3
      have T1' : Hid (Calls Tryd.prog 12 #[.slice ao L cap, .int .i64 (A : Int)] wr fun e w' => e = .returned (.tuple #[.bool false, .int .i64 ((0 : Nat) : Int), .int .i64 (((CrcM.whole (bs.drop A)).2 : Nat) : Int)]) ∧ ∃ n, w' = wr.drewN n) := T1
      have HR := hrow.out
      rw [m1] at HR
      obtain ⟨a, c, e, _⟩ := HR.rd.len
      subst e
      have FN : Hid (∀ n, ScanIs bs w (.returned (.tuple #[.slice a (CrcM.scan bs).1.length c, .int .i64 (A : Int), .int .i64 (((CrcM.whole (bs.drop A)).2 : Nat) : Int)])) (wr.drewN n)) := fun n => by
        refine FIN.out _ a _ c A _ rfl m2 m3 ?_ (below_drewN hnx n)
        obtain ⟨vs, k1, k2, k3, k4⟩ := HR.row
        exact ⟨vs, RowV.drewN k1 n, k2, fun x hx => RowV.drewN (k3 x hx) n, k4⟩
      clear T1 HR m1 m2 m3 e3 h3 hmid hrow
      generalize (CrcM.whole (bs.drop A)).2 = T at *
      go_wp2_with fail
      refine T1'.out.mono ?_
      rintro e w2 ⟨rfl, n, rfl⟩
      go_wp2_with fail
      go_ret3
      exact FN.out n
    · have T1 := TH.out A wr hA hnx
      unfold ThereIs at T1
      obtain ⟨p1, p2⟩ := pay_at2 h3
      obtain ⟨_, _, q3, _, q5, _⟩ := CrcM.whole_pos h3
      have e3 : CrcM.whole (bs.drop A) = ((CrcM.whole (bs.drop A)).1 - 8 + 8, 0) := Prod.ext (by simp only; omega) q5
      rw [there_yes e3] at T1
      have pl := CrcM.pay_len h3
      have S8 : (CrcM.whole (bs.drop A)).1 = (CrcM.pay (bs.drop A)).length + 8 := pl.symm
      have hM : Mid bs (A + (CrcM.whole (bs.drop A)).1) (ps ++ [CrcM.pay (bs.drop A)]) := hmid.out.some h3
      rw [S8] at hM
      rw [S8, Nat.add_sub_cancel] at T1 p1 p2
      have HM : Hid (Mid bs (A + ((CrcM.pay (bs.drop A)).length + 8)) (ps ++ [CrcM.pay (bs.drop A)])) := hM
      have T1' : Hid (Calls Tryd.prog 12 #[.slice ao L cap, .int .i64 (A : Int)] wr fun e w' => e = .returned (.tuple #[.bool true, .int .i64 (((CrcM.pay (bs.drop A)).length : Nat) : Int), .int .i64 ((0 : Nat) : Int)]) ∧ ∃ n, w' = wr.drewN n) := T1
      have PC' : Hid (∀ n, Calls Tryd.prog 13 #[.slice ao L cap, .int .i64 ((A : Int) + 4), .int .i64 (((CrcM.pay (bs.drop A)).length : Nat) : Int)] (wr.drewN n) (NewB (wr.drewN n) (CrcM.pay (bs.drop A)))) := fun n => by
        have := PC.out (A + 4) (CrcM.pay (bs.drop A)).length (wr.drewN n) (by have := HL.out; omega) (below_drewN hnx n)
        rw [p1, show ((A + 4 : Nat) : Int) = (A : Int) + 4 by omega] at this
        exact this
      have b1 : A + 4 + (CrcM.pay (bs.drop A)).length + 4 ≤ L := by have := HL.out; omega
      have big := LL.out
      clear T1 p1 p2 q3 q5 e3 pl S8 h3 hM hmid
      generalize CrcM.pay (bs.drop A) = P at *
      obtain ⟨vs, q1, q2, q3, q4⟩ := hrow.out.row
      have HLT : Hid (∀ y ∈ vs, ∀ g, y.ownBlock = some g → g < wr.heap.size) := fun y hy g hg => by
        obtain ⟨q, hq⟩ := zip_mem q2 hy
        exact (q3 _ hq).block_lt hg
      have Q3 : Hid (∀ y ∈ vs.zip ps, RowB 5 w.heap.size wr y.1 y.2) := q3
      have Q4 : Hid (vs.Pairwise (fun a b => ∀ g, a.ownBlock = some g → b.ownBlock ≠ some g)) := q4
      have Q2 : Hid (vs.length = ps.length) := q2
      have Q1 : Hid (RowV 22 w.heap.size wr u5 vs) := q1
      clear q1 q2 q3 q4 hrow
      go_wp2_with fail
      refine T1'.out.mono ?_
      rintro e w2 ⟨rfl, n2, rfl⟩
      go_wp2_with fail
      refine (PC'.out n2).mono ?_
      rintro e w1 ⟨v1, rfl, r1, b1'⟩
      have B1 : Below w.heap.size w w1 := below_trans (below_drewN hnx n2) b1'
      have hs1 := B1.size
      have l1 : vs.length + 1 ≤ maxLen := by have := hpk.out; have := Q2.out; unfold maxLen; omega
      have l2 : (vs.length + 1) * 24 ≤ 140737488355328 := by have := hpk.out; have := Q2.out; omega
      have own1 : RowV 22 w.heap.size w1 u5 vs := RowV.later (RowV.drewN Q1.out n2) b1'
      have HP : Hid (∀ w2 v', RowV 22 w.heap.size w2 v' (vs ++ [v1]) → w1.grownBy w2 u5.ownBlock → RowsV w.heap.size w2 v' (ps ++ [P])) := fun w2 v' r g => by
        refine RowsV.push own1 Q2.out (fun y hy => RowV.later (RowV.drewN (Q3.out y hy) n2) b1') Q4.out (r1.mono (by have := hnx.size; exact this)) (fun y hy g' hg e => ?_) r g
        have h5 := HLT.out y hy g' hg
        have h6 := r1.block_ge e
        have h7 : (wr.drewN n2).heap.size = wr.heap.size := rfl
        omega
      obtain ⟨a2, c2, rfl, _, _⟩ := (RowV.rd r1).len
      rw [List.length_map] at HP ⊢
      have HPL : Hid ((ps ++ [P]).length = k + 1) := by show _ = _; rw [List.length_append, hpk.out]; rfl
      clear r1 b1' T1' PC' Q1 Q2 Q3 Q4 HLT
      generalize P.length = X at *
      go_wp2_with (at_builtin; refine wpList_pushV rfl (.tmp 31) (.tmp 37) 23 rfl 22 i0 (.slice none 0 0) 24 underS hi hz0 hz1 hz2 rfl w.heap.size _ _ _ rfl rfl own1 hs1 rfl l1 l2 ?_; intro v' w2 hown' hgr)
      have HR2 : Hid (RowsV w.heap.size w2 v' (ps ++ [P])) := HP.out w2 v' hown' hgr
      have B2 : Below w.heap.size w w2 := below_grown B1 own1 (Nat.le_refl _) hs1 hgr
      clear HP hown' hgr own1
      go_roundw
      case rel => exact ⟨k + 1, A + (X + 8), ps ++ [P], by go_num, by go_num, by omega, by omega, HPL, HM, HR2, B2⟩
      case measure => simp [intOf]; omega

theorem RowsV.grown {base : Nat} {w w' : World} {v : Value} {ps : List (List Nat)} {row : Option Nat} (h : RowsV base w v ps) (k : w.grownBy w' row) (hm : ∀ g, row = some g → g < base) : RowsV base w' v ps := RowsV.kp h (Kp.of_grown k) hm
theorem RowsV.drewN {base : Nat} {w : World} {v : Value} {ps : List (List Nat)} (h : RowsV base w v ps) (n : Nat) : RowsV base (w.drewN n) v ps := by
  obtain ⟨vs, k1, k2, k3, k4⟩ := h.row
  exact ⟨vs, RowV.drewN k1 n, k2, fun x hx => RowV.drewN (k3 x hx) n, k4⟩

end Go.Proofs.YteflbdlfjebccaaDoor
