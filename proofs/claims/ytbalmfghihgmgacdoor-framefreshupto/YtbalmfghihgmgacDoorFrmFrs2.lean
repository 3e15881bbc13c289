/-
  Ours: the walk of FrameFresh.
-/
import Derived.Test.YtbalmfghihgmgacDoorFrmFresh
import Derived.Maps.AppendAt
namespace Go.Proofs.YtbalmfghihgmgacDoor
open Go.RowKit

theorem RowV.same {e : TypeId} {base base' : Nat} {w : World} {v : Value} {xs ys : List Value} (h : RowV e base w v xs) (k : RowV e base' w v ys) : xs = ys := by
  obtain ⟨_, _, e1, _, _⟩ := (RowV.rd h).len
  obtain ⟨_, _, e2, _, _⟩ := (RowV.rd k).len
  have hl : xs.length = ys.length := by rw [e1] at e2; injection e2
  by_cases h0 : xs.length = 0
  · rw [List.eq_nil_of_length_eq_zero h0, List.eq_nil_of_length_eq_zero (by omega : ys.length = 0)]
  obtain ⟨g, c, f1, _, q1, _⟩ := RowV.own h (by omega)
  obtain ⟨g', c', f2, _, q2, _⟩ := RowV.own k (by omega)
  rw [f1] at f2
  injection f2 with f2
  injection f2 with f2
  injection f2 with f2
  subst f2
  refine List.ext_getElem hl fun i h1 h2 => ?_
  have a := q1 i h1
  rw [q2 i h2] at a
  injection a with a
  exact a.symm

theorem rowB_kept {b b' : Nat} {W W' : World} {v x : Value} {vs : List Value} {c : List Nat} (own : RowV 22 b W v vs) (r : RowB 5 b' W x c) (g : W.grownBy W' v.ownBlock) : RowB 5 b' W' x c := RowV.kept r g (fun q hq e => rows_ne own r (by decide) e hq)

set_option maxRecDepth 100000 in
set_option maxHeartbeats 4000000 in
theorem fresh_core (cs : List (List Nat)) (v : Value) (w : World) (hs : Sml cs) (h : RdR w v cs) (hT : TabS w) (hz : CrcM.sizeL cs ≤ 6000000) (h40 : cs.length ≤ 40) :
    Calls Tryd.prog 8 #[v] w fun e w' => e = .returned (.bool true) ∧ Below w.heap.size w w' := by
  obtain ⟨ao, cap, rfl, hcap⟩ := h.len
  have hlen : ∀ p ∈ cs, p.length ≤ 4194304 := fun p hp => by have := hs.len p hp; omega
  have HJL : (CrcM.join cs).length = CrcM.sizeL cs := by unfold CrcM.sizeL; rfl
  have SJ : CrcM.scan (CrcM.join cs) = (cs, CrcM.sizeL cs, 0) := by
    have := CrcM.scan_join cs hlen []
    have hw : CrcM.whole [] = (0, 0) := by unfold CrcM.whole; exact if_pos rfl
    have e0 : CrcM.scan [] = ([], 0, 0) := by rw [CrcM.scan_none (l := []) (by rw [hw]), hw]
    rw [e0, List.append_nil, List.append_nil, HJL] at this
    exact this
  have FIT : Hid (Calls Tryd.prog 17 #[.slice ao cs.length cap] w fun e w' => e = .returned (.bool true) ∧ w' = w) := (fits_at cs _ w hs h).mono fun e w' ⟨h1, h2⟩ => ⟨by rw [h1, decide_eq_true hz], h2⟩
  have TWN : Hid (∀ W, Below w.heap.size w W → Calls Tryd.prog 19 #[.slice ao cs.length cap] W fun e w' => ∃ a c, e = .returned (.slice a cs.length c) ∧ RowsV W.heap.size w' (.slice a cs.length c) cs ∧ Below W.heap.size W w') := fun W hb => twin_at cs _ W hs (h.later hb)
  have JN : Hid (∀ w' v, Below w.heap.size w w' → RdR w' v cs → Calls Tryd.prog 18 #[v] w' (NewT w' (CrcM.join cs))) := fun w' v hb hr => join_at cs v w' hs (by omega) hr (hT.below hb)
  have SZ : Hid (∀ w', Below w.heap.size w w' → Calls Tryd.prog 20 #[.slice ao cs.length cap] w' fun e w'' => e = .returned (.int .i64 ((CrcM.sizeL cs : Nat) : Int)) ∧ w'' = w') := fun w' hb => size_at cs _ w' hs (h.later hb)
  have SCN : Hid (∀ w' v, Below w.heap.size w w' → RdB w' v (CrcM.join cs) → Calls Tryd.prog 12 #[v] w' (ScanIs (CrcM.join cs) w')) := fun w' v hb hr => scan_at _ v w' (join_lt hs.byt) (by omega) hr (hT.below hb)
  unfold ScanIs at SCN
  rw [SJ] at SCN
  simp only at SCN
  have CPF : Hid (∀ W v, RdB W v (CrcM.join cs) → Calls Tryd.prog 10 #[v] W (NewB W (CrcM.join cs))) := fun W v hr => copied_at _ v W (by omega) hr
  have CPP : Hid (∀ i W v, RdB W v (cs.getD i []) → Calls Tryd.prog 10 #[v] W (NewB W (cs.getD i []))) := fun i W v hr => copied_at _ v W (by have := hs.lenD i; omega) hr
  have ALK : Hid (∀ w' va, Below w.heap.size w w' → RdR w' va cs → Calls Tryd.prog 14 #[va, .slice ao cs.length cap] w' fun e w'' => e = .returned (.bool true) ∧ ∃ q, w'' = w'.drewN q) := fun w' va hb h1 => alike_at _ va _ w' (by omega) (fun x hx => by have := hs.len x hx; omega) h1 (h.later hb)
  have SME : Hid (∀ (xs : List Nat) va vb W, xs.length ≤ 140737488355328 → RdB W va xs → RdB W vb xs → Calls Tryd.prog 13 #[va, vb] W fun e w' => e = .returned (.bool true) ∧ ∃ n, w' = W.drewN n) := fun xs va vb W hl h1 h2 => by
    refine (same_at xs xs va vb W hl h1 h2).mono ?_
    rintro e w' ⟨rfl, h⟩
    exact ⟨by simp, h⟩
  have ENC : Hid (∀ i W v, i < cs.length → Below w.heap.size w W → RdB W v (cs.getD i []) → Calls Tryd.prog 9 #[v] W (NewT W (CrcM.enc (cs.getD i [])))) := fun i W v hi hb hr => encode_at _ v W (hs.byt _ (by rw [List.getD_eq_getElem?_getD, List.getElem?_eq_getElem hi]; exact List.getElem_mem hi)) (by have := hs.lenD i; omega) hr (hT.below hb)
  have DEC : Hid (∀ i W v, i < cs.length → Below w.heap.size w W → RdB W v (CrcM.join cs) → Calls Tryd.prog 15 #[v, .int .i64 ((CrcM.sizeL (cs.take i) : Nat) : Int)] W (NewP W (cs.getD i [], ((CrcM.sizeL (cs.take i) : Nat) : Int) + (((cs.getD i []).length + 8 : Nat) : Int), 0))) := fun i W v hi hb hr => by
    rw [← decL_join hlen hi]
    exact decode_at _ _ v W (join_lt hs.byt) (by omega) hr (hT.below hb)
  have HH : Hid (∀ i w', i < cs.length → Below w.heap.size w w' → ∃ g o a' c', ao = some ⟨g, o, none⟩ ∧ g < w.heap.size ∧ w'.cell? ⟨g, o + i, none⟩ = some (.slice a' (cs.getD i []).length c') ∧ RdB w' (.slice a' (cs.getD i []).length c') (cs.getD i [])) := fun i w' hi hb => by
    obtain ⟨ao', cc, e1, e2, H⟩ := h
    injection e1 with e1 _ e3
    subst e1 e3
    obtain ⟨g, o, a', c', h1, h2, h3, h4⟩ := H i hi
    exact ⟨g, o, a', c', h1, h2, (hb.cell (p := ⟨g, o + i, none⟩) h2).trans h3, Rd.later h4 hb⟩
  have HN : Hid (∀ i, i < cs.length → CrcM.sizeL (cs.take (i + 1)) = CrcM.sizeL (cs.take i) + (cs.getD i []).length + 8) := fun i hi => by rw [take_next cs i hi, sizeL_snoc]
  have HB : Hid (∀ i, CrcM.sizeL (cs.take i) ≤ 6000000) := fun i => by have := sizeL_take_le cs i; omega
  have HD : Hid (∀ i, (cs.getD i []).length ≤ 1048576) := hs.lenD
  have Z0 : Hid (CrcM.sizeL (cs.take 0) = 0) := by show _ = _; rw [List.take_zero]; exact CrcM.sizeL_nil
  have HEL : Hid (∀ i, (CrcM.enc (cs.getD i [])).length = (cs.getD i []).length + 8) := fun i => CrcM.enc_len _
  have HLE : Hid (∀ n ∈ cs.map List.length, n ≤ 1000000000) := fun n hn => by
    obtain ⟨x, hx, rfl⟩ := List.mem_map.1 hn
    have := hs.len x hx; omega
  have HJL' : Hid ((CrcM.join cs).length = CrcM.sizeL cs) := HJL
  generalize CrcM.join cs = F at *
  generalize CrcM.sizeL cs = SL at *
  obtain ⟨L, hL⟩ : ∃ L, cs.length = L := ⟨_, rfl⟩
  rw [hL] at FIT TWN SZ HH HN h40 hcap ALK SCN ENC DEC ⊢
  have HL : Hid (cs.length = L) := hL
  clear h hs hT SJ hL hlen HJL
  have n1 : ((SL : Int) != (SL : Int)) = false := by simp
  have d40 : decide ((40 : Int) < (L : Int)) = false := decide_eq_false (by omega)
  obtain ⟨i0, hi0, hz0, hz1, hz2⟩ := info_parts infoS
  go_enter Tryd.func8, Tryd.ntmps8
  go_wp2_with fail
  refine FIT.out.mono ?_
  rintro e w0 ⟨rfl, rfl⟩
  go_wp2_with fail
  refine (TWN.out _ (Below.refl _ _)).mono ?_
  rintro e w1 ⟨a1, c1, rfl, r1, b1⟩
  have R1 : Hid (RdR w1 (.slice a1 L c1) cs) := r1.rd
  have B1 : Hid (Below w0.heap.size w0 w1) := b1
  clear r1 b1 FIT
  go_wp2_with fail
  refine (JN.out _ _ B1.out R1.out).mono ?_
  rintro e w2 ⟨a2, c2, rfl, r2, b2⟩
  have B2 : Hid (Below w0.heap.size w0 w2) := below_trans B1.out b2
  have R2 : Hid (RowB 5 w1.heap.size w2 (.slice a2 F.length c2) F) := r2
  rw [HJL'.out] at R2 ⊢
  clear r2 b2 R1
  go_wp2_with fail
  refine (SZ.out _ B2.out).mono ?_
  rintro e w3 ⟨rfl, rfl⟩
  go_wp2_with fail
  refine (CPF.out _ _ (RowV.rd R2.out)).mono ?_
  rintro e w4 ⟨v4, rfl, r4, b4⟩
  have B4 : Hid (Below w0.heap.size w0 w4) := below_trans B2.out b4
  have R4 : Hid (RowB 5 w3.heap.size w4 v4 F) := r4
  have F4 : Hid (RowB 5 w1.heap.size w4 (.slice a2 SL c2) F) := RowV.later R2.out b4
  clear r4 b4 R2 SZ CPF
  go_wp2_with fail
  refine (SCN.out _ _ B4.out (RowV.rd F4.out)).mono ?_
  rintro e w5 ⟨a5, c5, rfl, r5, b5⟩
  have B45 : Hid (Below w4.heap.size w4 w5) := b5
  have R5 : Hid (RowsV w4.heap.size w5 (.slice a5 L c5) cs) := r5
  clear r5 b5
  go_wp2_with fail
  refine (SCN.out _ _ (below_trans B4.out B45.out) (Rd.later (RowV.rd F4.out) B45.out)).mono ?_
  rintro e w6 ⟨a6, c6, rfl, r6, b6⟩
  have B46 : Hid (Below w4.heap.size w4 w6) := below_trans B45.out b6
  have B56 : Hid (Below w5.heap.size w5 w6) := b6
  have R6 : Hid (RowsV w5.heap.size w6 (.slice a6 L c6) cs) := r6
  clear r6 b6
  go_wp2_with fail
  refine (TWN.out _ (below_trans B4.out B46.out)).mono ?_
  rintro e w7 ⟨a7, c7, rfl, r7, b7⟩
  have R7 : Hid (RdR w7 (.slice a7 L c7) cs) := r7.rd
  have B67 : Hid (Below w6.heap.size w6 w7) := b7
  clear r7 b7
  go_wp2_with fail
  refine (JN.out _ _ (below_trans B4.out (below_trans B46.out B67.out)) R7.out).mono ?_
  rintro e w8 ⟨a8, c8, rfl, r8, b8⟩
  have B68 : Hid (Below w6.heap.size w6 w8) := below_trans B67.out b8
  have R8 : Hid (RowB 5 w7.heap.size w8 (.slice a8 F.length c8) F) := r8
  have S67 : Hid (w6.heap.size ≤ w7.heap.size) := B67.out.size
  rw [HJL'.out] at R8 ⊢
  clear r8 b8 R7 B67
  have B58 : Hid (Below w5.heap.size w5 w8) := below_trans B56.out B68.out
  have B48 : Hid (Below w4.heap.size w4 w8) := below_trans B46.out B68.out
  have B08 : Hid (Below w0.heap.size w0 w8) := below_trans B4.out B48.out
  have R58 : Hid (RowsV w4.heap.size w8 (.slice a5 L c5) cs) := R5.out.later B58.out
  have R68 : Hid (RowsV w5.heap.size w8 (.slice a6 L c6) cs) := R6.out.later B68.out
  go_wp2_with fail
  refine (ALK.out _ _ B08.out R58.out.rd).mono ?_
  rintro e w9 ⟨rfl, q1, rfl⟩
  go_wp2_with fail
  refine (ALK.out _ _ (below_drewN B08.out _) (R68.out.rd)).mono ?_
  rintro e w9 ⟨rfl, q2, rfl⟩
  go_wp2_with fail
  refine (SME.out F _ _ _ (by rw [HJL'.out]; omega) (by first | exact RowV.rd R8.out | exact Rd.drewN (RowV.rd R8.out) _) (by first | exact Rd.later (RowV.rd F4.out) B48.out | exact Rd.drewN (Rd.later (RowV.rd F4.out) B48.out) _)).mono ?_
  rintro e w9 ⟨rfl, q3, rfl⟩
  go_upto_region 13 with fail
  have DR : Hid (Below w8.heap.size w8 (w8.drewN (q1 + q2 + q3))) := below_drewN (Below.refl _ _) _
  generalize hw9 : w8.drewN (q1 + q2 + q3) = w9 at *
  have S89 : Hid (w8.heap.size = w9.heap.size) := by show _ = _; rw [← hw9]; rfl
  clear hw9
  obtain ⟨ys, yr, yl, yi, yp⟩ := (R58.out.later DR.out).open
  obtain ⟨zs, zr, zl, zi, zp⟩ := (R68.out.later DR.out).open
  rw [HL.out] at yl yi yp zl zi zp
  have YI : Hid (∀ i, i < L → RowB 5 w4.heap.size w9 (ys.getD i undef) (cs.getD i [])) := yi
  have ZI : Hid (∀ i, i < L → RowB 5 w5.heap.size w9 (zs.getD i undef) (cs.getD i [])) := zi
  have YP : Hid (∀ i j, i < L → j < L → i ≠ j → ∀ g, (ys.getD i undef).ownBlock = some g → (ys.getD j undef).ownBlock ≠ some g) := yp
  have ZP : Hid (∀ i j, i < L → j < L → i ≠ j → ∀ g, (zs.getD i undef).ownBlock = some g → (zs.getD j undef).ownBlock ≠ some g) := zp
  have YL : Hid (ys.length = L) := yl
  have ZL : Hid (zs.length = L) := zl
  have YB : Hid (∀ i, i < L → ∀ g, (ys.getD i undef).ownBlock = some g → w4.heap.size ≤ g ∧ g < w5.heap.size) := fun i hi g hg => ⟨(yi i hi).block_ge hg, by
    obtain ⟨ys', yr', yl', yi', _⟩ := R5.out.open
    have : ys' = ys := RowV.same (RowV.later (RowV.later yr' B58.out) DR.out) yr
    subst this
    exact (yi' i (by rw [HL.out]; exact hi)).block_lt hg⟩
  have ZB : Hid (∀ i, i < L → ∀ g, (zs.getD i undef).ownBlock = some g → w5.heap.size ≤ g ∧ g < w6.heap.size) := fun i hi g hg => ⟨(zi i hi).block_ge hg, by
    obtain ⟨zs', zr', zl', zi', _⟩ := R6.out.open
    have : zs' = zs := RowV.same (RowV.later (RowV.later zr' B68.out) DR.out) zr
    subst this
    exact (zi' i (by rw [HL.out]; exact hi)).block_lt hg⟩
  have YR : Hid (RowV 22 w4.heap.size w9 (.slice a5 L c5) ys) := yr
  have ZR : Hid (RowV 22 w5.heap.size w9 (.slice a6 L c6) zs) := zr
  clear yr yl yi yp zr zl zi zp R5 R6 R58 R68
  have ONEY : Hid (∀ u ∈ ys, u.oneCell' = true) := fun u hu => by
    obtain ⟨i, hi, rfl⟩ := List.mem_iff_getElem.1 hu
    have hi' : i < L := by have := YL.out; omega
    obtain ⟨_, _, e, _⟩ := (RowV.rd (YI.out i hi')).len
    rw [List.getD_eq_getElem?_getD, List.getElem?_eq_getElem hi] at e
    simp only [Option.getD_some] at e
    rw [e]; rfl
  have ONEZ : Hid (∀ u ∈ zs, u.oneCell' = true) := fun u hu => by
    obtain ⟨i, hi, rfl⟩ := List.mem_iff_getElem.1 hu
    have hi' : i < L := by have := ZL.out; omega
    obtain ⟨_, _, e, _⟩ := (RowV.rd (ZI.out i hi')).len
    rw [List.getD_eq_getElem?_getD, List.getElem?_eq_getElem hi] at e
    simp only [Option.getD_some] at e
    rw [e]; rfl
  have ly1 : ([] : List Value).length + ys.length ≤ maxLen := by rw [YL.out]; show 0 + L ≤ _; unfold maxLen; omega
  have ly2 : (([] : List Value).length + ys.length) * 24 ≤ 140737488355328 := by rw [YL.out]; show (0 + L) * 24 ≤ _; omega
  go_upto_region 14 with (at_builtin; refine wpList_catV rfl (.tmp 91) (.tmp 92) 27 rfl 22 i0 (.slice none 0 0) 24 underS hi0 hz0 hz1 hz2 rfl w9.heap.size _ _ [] ys ONEY.out rfl (RowV.nil _ _ _) (Nat.le_refl _) rfl (RowV.rd YR.out) ly1 ly2 ?_; intro v10 w10 own10 gr10)
  have S49 : Hid (w4.heap.size ≤ w9.heap.size) := by have := B48.out.size; have := S89.out; show _ ≤ _; omega
  have S47 : Hid (w4.heap.size ≤ w5.heap.size ∧ w5.heap.size ≤ w6.heap.size ∧ w6.heap.size ≤ w7.heap.size) := ⟨B45.out.size, B56.out.size, S67.out⟩
  have OTH : Hid (∀ q, (Value.slice a8 SL c8).ownBlock = some q → w7.heap.size ≤ q ∧ q < w9.heap.size) := fun q hq => ⟨R8.out.block_ge hq, by have := R8.out.block_lt hq; have := S89.out; omega⟩
  have O1 : Hid (OU w4.heap.size (fun g => w4.heap.size ≤ g ∧ (Value.slice a8 SL c8).ownBlock ≠ some g) w10 v10 ([] ++ ys) ([] ++ cs.map List.length)) := OU.cat (W := w9) OU.nil (by rw [YL.out, HL.out]) (fun i hi => YI.out i (by rw [← HL.out]; exact hi)) (fun i j hi hj => YP.out i j (by rw [← HL.out]; exact hi) (by rw [← HL.out]; exact hj)) (fun i hi g hg => ⟨(YB.out i (by rw [← HL.out]; exact hi) g hg).1, fun e => by have := (YB.out i (by rw [← HL.out]; exact hi) g hg).2; have := (OTH.out g e).1; have := S47.out; omega⟩) (fun j i hj => by simp at hj) (RowV.mono own10 S49.out) gr10
  have OWN10 : Hid (RowV 22 w9.heap.size w10 v10 ([] ++ ys)) := own10
  have GR10 : Hid (w9.grownBy w10 none) := gr10
  have B910 : Hid (Below w9.heap.size w9 w10) := below_step (Below.refl _ _) GR10.out (Nat.le_refl _) (fun q e => by cases e)
  clear own10 gr10 YR YI YP ONEY
  have hs10 : w9.heap.size ≤ w10.heap.size := B910.out.size
  have lz1 : (([] : List Value) ++ ys).length + zs.length ≤ maxLen := by rw [List.nil_append, YL.out, ZL.out]; unfold maxLen; omega
  have lz2 : ((([] : List Value) ++ ys).length + zs.length) * 24 ≤ 140737488355328 := by rw [List.nil_append, YL.out, ZL.out]; omega
  go_upto_region 15 with (at_builtin; refine wpList_catV rfl (.tmp 94) (.tmp 95) 27 rfl 22 i0 (.slice none 0 0) 24 underS hi0 hz0 hz1 hz2 rfl w9.heap.size _ _ ([] ++ ys) zs ONEZ.out rfl OWN10.out hs10 rfl (Rd.later (RowV.rd ZR.out) B910.out) lz1 lz2 ?_; intro v11 w11 own11 gr11)
  have O2 : Hid (OU w4.heap.size (fun g => w4.heap.size ≤ g ∧ (Value.slice a8 SL c8).ownBlock ≠ some g) w11 v11 (([] ++ ys) ++ zs) (([] ++ cs.map List.length) ++ cs.map List.length)) := by
    refine OU.cat O1.out (by rw [ZL.out, HL.out]) (fun i hi => RowV.mono (RowV.later (ZI.out i (by rw [← HL.out]; exact hi)) B910.out) S47.out.1) (fun i j hi hj => ZP.out i j (by rw [← HL.out]; exact hi) (by rw [← HL.out]; exact hj)) (fun i hi g hg => ⟨by have := (ZB.out i (by rw [← HL.out]; exact hi) g hg).1; have := S47.out; omega, fun e => by have := (ZB.out i (by rw [← HL.out]; exact hi) g hg).2; have := (OTH.out g e).1; have := S47.out; omega⟩) (fun j i hj hi g h1 h2 => ?_) (RowV.mono own11 S49.out) gr11
    have e1 := (YB.out j (by have := HL.out; simp at hj; omega) g h1).2
    have e2 := (ZB.out i (by rw [← HL.out]; exact hi) g h2).1
    omega
  have OWN11 : Hid (RowV 22 w9.heap.size w11 v11 (([] ++ ys) ++ zs)) := own11
  have B911 : Hid (Below w9.heap.size w9 w11) := below_step B910.out gr11 hs10 (fun q e => OWN10.out.block_ge e)
  have N11 : Hid ((([] ++ cs.map List.length) ++ cs.map List.length).length = 2 * L + 4 * 0) := by show _ = _; simp [HL.out]; omega
  have LE11 : Hid (∀ n ∈ (([] ++ cs.map List.length) ++ cs.map List.length), n ≤ 1000000000) := fun n hn => by
    simp only [List.nil_append, List.mem_append, or_self] at hn
    exact HLE.out n hn
  have F9 : Hid (RdB w9 (.slice a2 SL c2) F) := Rd.later (Rd.later (RowV.rd F4.out) B48.out) DR.out
  have B09 : Hid (Below w0.heap.size w0 w9) := below_trans B08.out DR.out
  clear own11 gr11 O1 OWN10 B910 GR10 ZR ZI ZP ZB YB ONEZ YL ZL lz1 lz2 ly1 ly2 hs10 B45 B56 B46 B68 B58
  go_wp2_with fail
  go_loopw [14, 15, 16] (fun vo va vi wr => ∃ (i : Nat) (vs : List Value) (ns : List Nat), vi = .int .i64 (i : Int) ∧ i ≤ L ∧ va = .int .i64 ((CrcM.sizeL (cs.take i) : Nat) : Int) ∧ Hid (RowV 22 w9.heap.size wr vo vs) ∧ Hid (OU w4.heap.size (fun g => w4.heap.size ≤ g ∧ (Value.slice a8 SL c8).ownBlock ≠ some g) wr vo vs ns) ∧ Hid (ns.length = 2 * L + 4 * i) ∧ Hid (∀ n ∈ ns, n ≤ 1000000000) ∧ Hid (Below w9.heap.size w9 wr)) (fun _ _ vi _ => L - (intOf vi).toNat)
  case atStart => exact ⟨0, _, _, rfl, by omega, by rw [Z0.out]; rfl, OWN11, O2, N11, LE11, B911⟩
  case round =>
    clear OWN11 O2 N11 LE11 B911
    obtain ⟨i, vs, ns, rfl, hi, rfl, hR, hO, hn, hle, hB9⟩ := hrel
    have hb := HB.out i
    by_cases hlt : (i : Int) < (L : Int)
    · have B0r : Hid (Below w0.heap.size w0 wr) := below_trans B09.out hB9.out
      have FR : Hid (RdB wr (.slice a2 SL c2) F) := Rd.later F9.out hB9.out
      obtain ⟨g, o, a', c', eao, ltg, k0, rd0⟩ := HH.out i wr (by omega) B0r.out
      have hx := HD.out i
      have HN' : Hid (CrcM.sizeL (cs.take (i + 1)) = CrcM.sizeL (cs.take i) + (cs.getD i []).length + 8) := HN.out i (by omega)
      have DEC' : Hid (∀ W v, Below w0.heap.size w0 W → RdB W v F → Calls Tryd.prog 15 #[v, .int .i64 ((CrcM.sizeL (cs.take i) : Nat) : Int)] W fun e w' => ∃ a c, e = .returned (.tuple #[.slice a (cs.getD i []).length c, .int .i64 (((CrcM.sizeL (cs.take i) : Nat) : Int) + (((cs.getD i []).length + 8 : Nat) : Int)), .int .i64 ((0 : Nat) : Int)]) ∧ RowB 5 W.heap.size w' (.slice a (cs.getD i []).length c) (cs.getD i []) ∧ Below W.heap.size W w') := fun W v => DEC.out i W v (by omega)
      have ENC' : Hid (∀ W v, Below w0.heap.size w0 W → RdB W v (cs.getD i []) → Calls Tryd.prog 9 #[v] W (NewT W (CrcM.enc (cs.getD i [])))) := fun W v => ENC.out i W v (by omega)
      have CPP' : Hid (∀ W v, RdB W v (cs.getD i []) → Calls Tryd.prog 10 #[v] W (NewB W (cs.getD i []))) := CPP.out i
      have HEL' : Hid ((CrcM.enc (cs.getD i [])).length = (cs.getD i []).length + 8) := HEL.out i
      have SMP : Hid (∀ va vb W, RdB W va (cs.getD i []) → RdB W vb (cs.getD i []) → Calls Tryd.prog 13 #[va, vb] W fun e w' => e = .returned (.bool true) ∧ ∃ n, w' = W.drewN n) := fun va vb W => SME.out _ va vb W (by omega)
      have SMQ : Hid (∀ va vb W, RdB W va (CrcM.enc (cs.getD i [])) → RdB W vb (CrcM.enc (cs.getD i [])) → Calls Tryd.prog 13 #[va, vb] W fun e w' => e = .returned (.bool true) ∧ ∃ n, w' = W.drewN n) := fun va vb W => SME.out _ va vb W (by rw [HEL'.out]; omega)
      have HC : Hid (∀ W, Below wr.heap.size wr W → W.cell? ⟨g, o + i, none⟩ = some (.slice a' (cs.getD i []).length c') ∧ RdB W (.slice a' (cs.getD i []).length c') (cs.getD i [])) := fun W b => ⟨(b.cell (p := ⟨g, o + i, none⟩) (by have := B0r.out.size; show g < _; omega)).trans k0, Rd.later rd0 b⟩
      clear rd0 ltg
      generalize hp : cs.getD i [] = p at *
      clear hp
      generalize CrcM.enc p = E at *
      have HX : Hid (∃ X, p.length = X) := ⟨_, rfl⟩
      obtain ⟨X, hX⟩ := HX.out
      have HXL : Hid (p.length = X) := hX
      rw [hX] at k0 hx HN' DEC' HEL' HC
      clear hX HX
      have HS : Hid (∃ S, CrcM.sizeL (cs.take i) = S) := ⟨_, rfl⟩
      obtain ⟨S, hS⟩ := HS.out
      rw [hS] at hb HN' DEC' ⊢
      clear hS HS
      subst eao
      go_wp2_with fail
      refine (DEC'.out _ _ B0r.out FR.out).mono ?_
      rintro e x1 ⟨p1, q1, rfl, r1, b1⟩
      have B1 : Hid (Below wr.heap.size wr x1) := b1
      have P1 : Hid (RowB 5 wr.heap.size x1 (.slice p1 X q1) p) := r1
      have k1 := (HC.out x1 B1.out).1
      have S01 : Hid (wr.heap.size ≤ x1.heap.size) := b1.size
      clear r1 b1 k0
      go_wp2_with fail
      refine (CPP'.out _ _ (HC.out x1 B1.out).2).mono ?_
      rintro e x2 ⟨u2, rfl, r2, b2⟩
      have B2 : Hid (Below wr.heap.size wr x2) := below_trans B1.out b2
      have P2 : Hid (RdB x2 u2 p) := RowV.rd r2
      have S12 : Hid (x1.heap.size ≤ x2.heap.size) := b2.size
      have B12 : Hid (Below x1.heap.size x1 x2) := b2
      clear r2 b2
      go_wp2_with fail
      refine (ENC'.out _ _ (below_trans B0r.out B2.out) P2.out).mono ?_
      rintro e x3 ⟨p3, q3, rfl, r3, b3⟩
      have B3 : Hid (Below wr.heap.size wr x3) := below_trans B2.out b3
      have P3 : Hid (RowB 5 x2.heap.size x3 (.slice p3 E.length q3) E) := r3
      have S23 : Hid (x2.heap.size ≤ x3.heap.size) := b3.size
      have B23 : Hid (Below x2.heap.size x2 x3) := b3
      rw [HEL'.out] at P3 ⊢
      clear r3 b3 P2 k1
      go_wp2_with fail
      refine (DEC'.out _ _ (below_trans B0r.out B3.out) (Rd.later FR.out B3.out)).mono ?_
      rintro e x4 ⟨p4, q4, rfl, r4, b4⟩
      have B34 : Hid (Below x3.heap.size x3 x4) := b4
      have B4' : Hid (Below wr.heap.size wr x4) := below_trans B3.out b4
      have P4 : Hid (RowB 5 x3.heap.size x4 (.slice p4 X q4) p) := r4
      have k4 := (HC.out x4 B4'.out).1
      clear r4 b4
      go_wp2_with fail
      refine (CPP'.out _ _ (HC.out x4 B4'.out).2).mono ?_
      rintro e x5 ⟨u5, rfl, r5, b5⟩
      have B45' : Hid (Below x4.heap.size x4 x5) := b5
      have P5 : Hid (RdB x5 u5 p) := RowV.rd r5
      clear r5 b5 k4
      go_wp2_with fail
      refine (ENC'.out _ _ (below_trans B0r.out (below_trans B4'.out B45'.out)) P5.out).mono ?_
      rintro e x6 ⟨p6, q6, rfl, r6, b6⟩
      have B56' : Hid (Below x5.heap.size x5 x6) := b6
      have P6 : Hid (RowB 5 x5.heap.size x6 (.slice p6 E.length q6) E) := r6
      rw [HEL'.out] at P6 ⊢
      clear r6 b6 P5
      have B46' : Hid (Below x4.heap.size x4 x6) := below_trans B45'.out B56'.out
      have B36' : Hid (Below x3.heap.size x3 x6) := below_trans B34.out B46'.out
      have B06 : Hid (Below wr.heap.size wr x6) := below_trans B4'.out B46'.out
      have S45 : Hid (x4.heap.size ≤ x5.heap.size) := B45'.out.size
      have S34 : Hid (x3.heap.size ≤ x4.heap.size) := B34.out.size
      have S56 : Hid (x5.heap.size ≤ x6.heap.size) := B56'.out.size
      have B16 : Hid (Below x1.heap.size x1 x6) := below_trans B12.out (below_trans B23.out B36'.out)
      have k6 := (HC.out x6 B06.out).1
      have n5 : (((X + 8 : Nat) : Int) != (X : Int) + 8) = false := by simp
      have n6 : ((X : Int) + 8 != (X : Int) + 8) = false := by simp
      clear B12 B23 B34 B45' B56' B1 B2 B3 B4' DEC' ENC' CPP'
      go_wp2_with fail
      refine (SMP.out _ _ _ (by first | exact Rd.later (RowV.rd P1.out) B16.out | exact Rd.drewN (Rd.later (RowV.rd P1.out) B16.out) _) (by first | exact (HC.out x6 B06.out).2 | exact Rd.drewN (HC.out x6 B06.out).2 _)).mono ?_
      rintro e y ⟨rfl, m1, rfl⟩
      go_wp2_with fail
      refine (SMP.out _ _ _ (by first | exact Rd.later (RowV.rd P1.out) B16.out | exact Rd.drewN (Rd.later (RowV.rd P1.out) B16.out) _) (by first | exact Rd.later (RowV.rd P4.out) B46'.out | exact Rd.drewN (Rd.later (RowV.rd P4.out) B46'.out) _)).mono ?_
      rintro e y ⟨rfl, m2, rfl⟩
      go_wp2_with fail
      refine (SMQ.out _ _ _ (by first | exact Rd.later (RowV.rd P3.out) B36'.out | exact Rd.drewN (Rd.later (RowV.rd P3.out) B36'.out) _) (by first | exact RowV.rd P6.out | exact Rd.drewN (RowV.rd P6.out) _)).mono ?_
      rintro e y ⟨rfl, m3, rfl⟩
      go_upto_region 25 with fail
      have BY : Hid (Below x6.heap.size x6 (x6.drewN (m1 + m2 + m3))) := below_drewN (Below.refl _ _) _
      have SY : Hid (x6.heap.size = (x6.drewN (m1 + m2 + m3)).heap.size) := rfl
      generalize x6.drewN (m1 + m2 + m3) = y0 at *
      have BRY : Hid (Below wr.heap.size wr y0) := below_trans B06.out BY.out
      have B9Y : Hid (Below w9.heap.size w9 y0) := below_trans hB9.out BRY.out
      have ALLS : Hid (w4.heap.size ≤ w9.heap.size ∧ w9.heap.size ≤ wr.heap.size ∧ wr.heap.size ≤ x1.heap.size ∧ x1.heap.size ≤ x2.heap.size ∧ x2.heap.size ≤ x3.heap.size ∧ x3.heap.size ≤ x4.heap.size ∧ x4.heap.size ≤ x5.heap.size ∧ x5.heap.size ≤ x6.heap.size ∧ x6.heap.size = y0.heap.size) := ⟨S49.out, hB9.out.size, S01.out, S12.out, S23.out, S34.out, S45.out, S56.out, SY.out⟩
      have P1y : Hid (RowB 5 wr.heap.size y0 (Value.slice p1 X q1) p) := RowV.later P1.out (below_trans B16.out BY.out)
      have P3y : Hid (RowB 5 x2.heap.size y0 (Value.slice p3 (X + 8) q3) E) := RowV.later P3.out (below_trans B36'.out BY.out)
      have P4y : Hid (RowB 5 x3.heap.size y0 (Value.slice p4 X q4) p) := RowV.later P4.out (below_trans B46'.out BY.out)
      have P6y : Hid (RowB 5 x5.heap.size y0 (Value.slice p6 (X + 8) q6) E) := RowV.later P6.out BY.out
      have QQ : Hid (∀ q, wr.heap.size ≤ q → w4.heap.size ≤ q ∧ (Value.slice a8 SL c8).ownBlock ≠ some q) := fun q hq => ⟨by have := ALLS.out; omega, fun e => by have := (OTH.out q e).2; have := ALLS.out; omega⟩
      have OO0 : Hid (OU w4.heap.size (fun g => (fun g => w4.heap.size ≤ g ∧ (Value.slice a8 SL c8).ownBlock ≠ some g) g ∧ g < wr.heap.size) y0 u14 vs ns) := (hO.out.bound (Nat.le_refl _)).later BRY.out
      have RR0 : Hid (RowV 22 w9.heap.size y0 u14 vs) := RowV.later hR.out BRY.out
      have VL : Hid (vs.length = 2 * L + 4 * i) := by show _ = _; rw [hO.out.ti.len]; exact hn.out
      clear hR hO FR HC SMP SMQ k6 B06 B16 B36' B46' BY SY
      have lp1 : vs.length + 1 ≤ maxLen := by rw [VL.out]; unfold maxLen; omega
      have lq1 : (vs.length + 1) * 24 ≤ 140737488355328 := by rw [VL.out]; omega
      have hsy1 : w9.heap.size ≤ y0.heap.size := B9Y.out.size
      have ROW1 := RR0.out
      go_upto_region 26 with (at_builtin; refine wpList_pushV rfl (.tmp 162) (.tmp 164) 27 rfl 22 i0 (.slice none 0 0) 24 underS hi0 hz0 hz1 hz2 rfl w9.heap.size _ vs (Value.slice p1 X q1) rfl rfl ROW1 hsy1 rfl lp1 lq1 ?_; intro o1 y1 own1 gr1)
      have OO1 : Hid (OU w4.heap.size (fun g => (fun g => w4.heap.size ≤ g ∧ (Value.slice a8 SL c8).ownBlock ≠ some g) g ∧ g < x1.heap.size) y1 o1 (vs ++ [(Value.slice p1 X q1)]) (ns ++ [p.length])) := OU.next (B := wr.heap.size) OO0.out (RowV.mono P1y.out (by have := ALLS.out; omega)) (fun q hq => ⟨QQ.out q (by have := P1y.out.block_ge hq; have := ALLS.out; omega), by have := P1y.out.block_ge hq; have := ALLS.out; omega, P1.out.block_lt hq⟩) (by have := ALLS.out; omega) (RowV.mono own1 S49.out) gr1
      have RR1 : Hid (RowV 22 w9.heap.size y1 o1 (vs ++ [(Value.slice p1 X q1)])) := own1
      have B9Y1 : Hid (Below w9.heap.size w9 y1) := below_step B9Y.out gr1 hsy1 (fun q e => ROW1.block_ge e)
      have P3y : Hid (RowB 5 x2.heap.size y1 (Value.slice p3 (X + 8) q3) E) := rowB_kept ROW1 P3y.out gr1
      have P4y : Hid (RowB 5 x3.heap.size y1 (Value.slice p4 X q4) p) := rowB_kept ROW1 P4y.out gr1
      have P6y : Hid (RowB 5 x5.heap.size y1 (Value.slice p6 (X + 8) q6) E) := rowB_kept ROW1 P6y.out gr1
      clear own1 gr1 ROW1 lp1 lq1 hsy1
      have lp2 : (vs ++ [(Value.slice p1 X q1)]).length + 1 ≤ maxLen := by simp only [List.length_append, List.length_cons, List.length_nil, VL.out]; unfold maxLen; omega
      have lq2 : ((vs ++ [(Value.slice p1 X q1)]).length + 1) * 24 ≤ 140737488355328 := by simp only [List.length_append, List.length_cons, List.length_nil, VL.out]; omega
      have hsy2 : w9.heap.size ≤ y1.heap.size := B9Y1.out.size
      have ROW2 := RR1.out
      go_upto_region 27 with (at_builtin; refine wpList_pushV rfl (.tmp 166) (.tmp 168) 27 rfl 22 i0 (.slice none 0 0) 24 underS hi0 hz0 hz1 hz2 rfl w9.heap.size _ (vs ++ [(Value.slice p1 X q1)]) (Value.slice p3 (X + 8) q3) rfl rfl ROW2 hsy2 rfl lp2 lq2 ?_; intro o2 y2 own2 gr2)
      have OO2 : Hid (OU w4.heap.size (fun g => (fun g => w4.heap.size ≤ g ∧ (Value.slice a8 SL c8).ownBlock ≠ some g) g ∧ g < x3.heap.size) y2 o2 ((vs ++ [(Value.slice p1 X q1)]) ++ [(Value.slice p3 (X + 8) q3)]) ((ns ++ [p.length]) ++ [E.length])) := OU.next (B := x1.heap.size) OO1.out (RowV.mono P3y.out (by have := ALLS.out; omega)) (fun q hq => ⟨QQ.out q (by have := P3y.out.block_ge hq; have := ALLS.out; omega), by have := P3y.out.block_ge hq; have := ALLS.out; omega, P3.out.block_lt hq⟩) (by have := ALLS.out; omega) (RowV.mono own2 S49.out) gr2
      have RR2 : Hid (RowV 22 w9.heap.size y2 o2 ((vs ++ [(Value.slice p1 X q1)]) ++ [(Value.slice p3 (X + 8) q3)])) := own2
      have B9Y2 : Hid (Below w9.heap.size w9 y2) := below_step B9Y1.out gr2 hsy2 (fun q e => ROW2.block_ge e)
      have P4y : Hid (RowB 5 x3.heap.size y2 (Value.slice p4 X q4) p) := rowB_kept ROW2 P4y.out gr2
      have P6y : Hid (RowB 5 x5.heap.size y2 (Value.slice p6 (X + 8) q6) E) := rowB_kept ROW2 P6y.out gr2
      clear own2 gr2 ROW2 lp2 lq2 hsy2
      have lp3 : ((vs ++ [(Value.slice p1 X q1)]) ++ [(Value.slice p3 (X + 8) q3)]).length + 1 ≤ maxLen := by simp only [List.length_append, List.length_cons, List.length_nil, VL.out]; unfold maxLen; omega
      have lq3 : (((vs ++ [(Value.slice p1 X q1)]) ++ [(Value.slice p3 (X + 8) q3)]).length + 1) * 24 ≤ 140737488355328 := by simp only [List.length_append, List.length_cons, List.length_nil, VL.out]; omega
      have hsy3 : w9.heap.size ≤ y2.heap.size := B9Y2.out.size
      have ROW3 := RR2.out
      go_upto_region 28 with (at_builtin; refine wpList_pushV rfl (.tmp 170) (.tmp 172) 27 rfl 22 i0 (.slice none 0 0) 24 underS hi0 hz0 hz1 hz2 rfl w9.heap.size _ ((vs ++ [(Value.slice p1 X q1)]) ++ [(Value.slice p3 (X + 8) q3)]) (Value.slice p4 X q4) rfl rfl ROW3 hsy3 rfl lp3 lq3 ?_; intro o3 y3 own3 gr3)
      have OO3 : Hid (OU w4.heap.size (fun g => (fun g => w4.heap.size ≤ g ∧ (Value.slice a8 SL c8).ownBlock ≠ some g) g ∧ g < x4.heap.size) y3 o3 (((vs ++ [(Value.slice p1 X q1)]) ++ [(Value.slice p3 (X + 8) q3)]) ++ [(Value.slice p4 X q4)]) (((ns ++ [p.length]) ++ [E.length]) ++ [p.length])) := OU.next (B := x3.heap.size) OO2.out (RowV.mono P4y.out (by have := ALLS.out; omega)) (fun q hq => ⟨QQ.out q (by have := P4y.out.block_ge hq; have := ALLS.out; omega), by have := P4y.out.block_ge hq; have := ALLS.out; omega, P4.out.block_lt hq⟩) (by have := ALLS.out; omega) (RowV.mono own3 S49.out) gr3
      have RR3 : Hid (RowV 22 w9.heap.size y3 o3 (((vs ++ [(Value.slice p1 X q1)]) ++ [(Value.slice p3 (X + 8) q3)]) ++ [(Value.slice p4 X q4)])) := own3
      have B9Y3 : Hid (Below w9.heap.size w9 y3) := below_step B9Y2.out gr3 hsy3 (fun q e => ROW3.block_ge e)
      have P6y : Hid (RowB 5 x5.heap.size y3 (Value.slice p6 (X + 8) q6) E) := rowB_kept ROW3 P6y.out gr3
      clear own3 gr3 ROW3 lp3 lq3 hsy3
      have lp4 : (((vs ++ [(Value.slice p1 X q1)]) ++ [(Value.slice p3 (X + 8) q3)]) ++ [(Value.slice p4 X q4)]).length + 1 ≤ maxLen := by simp only [List.length_append, List.length_cons, List.length_nil, VL.out]; unfold maxLen; omega
      have lq4 : ((((vs ++ [(Value.slice p1 X q1)]) ++ [(Value.slice p3 (X + 8) q3)]) ++ [(Value.slice p4 X q4)]).length + 1) * 24 ≤ 140737488355328 := by simp only [List.length_append, List.length_cons, List.length_nil, VL.out]; omega
      have hsy4 : w9.heap.size ≤ y3.heap.size := B9Y3.out.size
      have ROW4 := RR3.out
      go_upto_region 29 with (at_builtin; refine wpList_pushV rfl (.tmp 174) (.tmp 176) 27 rfl 22 i0 (.slice none 0 0) 24 underS hi0 hz0 hz1 hz2 rfl w9.heap.size _ (((vs ++ [(Value.slice p1 X q1)]) ++ [(Value.slice p3 (X + 8) q3)]) ++ [(Value.slice p4 X q4)]) (Value.slice p6 (X + 8) q6) rfl rfl ROW4 hsy4 rfl lp4 lq4 ?_; intro o4 y4 own4 gr4)
      have OO4 : Hid (OU w4.heap.size (fun g => (fun g => w4.heap.size ≤ g ∧ (Value.slice a8 SL c8).ownBlock ≠ some g) g ∧ g < x6.heap.size) y4 o4 ((((vs ++ [(Value.slice p1 X q1)]) ++ [(Value.slice p3 (X + 8) q3)]) ++ [(Value.slice p4 X q4)]) ++ [(Value.slice p6 (X + 8) q6)]) ((((ns ++ [p.length]) ++ [E.length]) ++ [p.length]) ++ [E.length])) := OU.next (B := x4.heap.size) OO3.out (RowV.mono P6y.out (by have := ALLS.out; omega)) (fun q hq => ⟨QQ.out q (by have := P6y.out.block_ge hq; have := ALLS.out; omega), by have := P6y.out.block_ge hq; have := ALLS.out; omega, P6.out.block_lt hq⟩) (by have := ALLS.out; omega) (RowV.mono own4 S49.out) gr4
      have RR4 : Hid (RowV 22 w9.heap.size y4 o4 ((((vs ++ [(Value.slice p1 X q1)]) ++ [(Value.slice p3 (X + 8) q3)]) ++ [(Value.slice p4 X q4)]) ++ [(Value.slice p6 (X + 8) q6)])) := own4
      have B9Y4 : Hid (Below w9.heap.size w9 y4) := below_step B9Y3.out gr4 hsy4 (fun q e => ROW4.block_ge e)
      clear own4 gr4 ROW4 lp4 lq4 hsy4
      have OF : Hid (OU w4.heap.size (fun g => w4.heap.size ≤ g ∧ (Value.slice a8 SL c8).ownBlock ≠ some g) y4 o4 ((((vs ++ [(Value.slice p1 X q1)]) ++ [(Value.slice p3 (X + 8) q3)]) ++ [(Value.slice p4 X q4)]) ++ [(Value.slice p6 (X + 8) q6)]) ((((ns ++ [p.length]) ++ [E.length]) ++ [p.length]) ++ [E.length])) := OO4.out.mono fun g hg => hg.1
      have NF : Hid (((((ns ++ [p.length]) ++ [E.length]) ++ [p.length]) ++ [E.length]).length = 2 * L + 4 * (i + 1)) := by show _ = _; simp only [List.length_append, List.length_cons, List.length_nil, hn.out]; omega
      have LF : Hid (∀ n ∈ ((((ns ++ [p.length]) ++ [E.length]) ++ [p.length]) ++ [E.length]), n ≤ 1000000000) := fun n hn' => by
        simp only [List.mem_append, List.mem_singleton, HXL.out, HEL'.out] at hn'
        rcases hn' with (((h | h) | h) | h) | h
        · exact hle.out n h
        all_goals omega
      clear OO0 OO1 OO2 OO3 OO4 RR0 RR1 RR2 RR3 hle hn
      go_wp2_with fail
      go_roundw
      case rel => exact ⟨i + 1, _, _, by go_num, by omega, by rw [HN'.out]; go_num, RR4, OF, NF, LF, B9Y4⟩
      case measure => simp [intOf]; omega
    · obtain rfl : i = L := by omega
      have VL : Hid (vs.length = 2 * i + 4 * i) := by show _ = _; rw [hO.out.ti.len]; exact hn.out
      have lp : vs.length + 1 ≤ maxLen := by rw [VL.out]; unfold maxLen; omega
      have lq : (vs.length + 1) * 24 ≤ 140737488355328 := by rw [VL.out]; omega
      have hsy : w9.heap.size ≤ wr.heap.size := hB9.out.size
      have ROW := hR.out
      have OT9 : Hid (RowB 5 w7.heap.size wr (Value.slice a8 SL c8) F) := RowV.later (RowV.later R8.out DR.out) hB9.out
      have K9 : Hid (RowB 5 w3.heap.size w9 v4 F) := RowV.later (RowV.later R4.out B48.out) DR.out
      have KB : Hid (∀ q, v4.ownBlock = some q → q < w4.heap.size) := fun q hq => R4.out.block_lt hq
      have FB : Hid (∀ q, (Value.slice a2 SL c2).ownBlock = some q → q < w4.heap.size) := fun q hq => F4.out.block_lt hq
      have S04 : Hid (w0.heap.size ≤ w4.heap.size) := B4.out.size
      go_upto_region 31 with (at_builtin; refine wpList_pushV rfl (.tmp 183) (.tmp 185) 27 rfl 22 i0 (.slice none 0 0) 24 underS hi0 hz0 hz1 hz2 rfl w9.heap.size _ vs (Value.slice a8 SL c8) rfl rfl ROW hsy rfl lp lq ?_; intro o1 y1 own1 gr1)
      have OO : Hid (OU w4.heap.size (fun g => w4.heap.size ≤ g) y1 o1 (vs ++ [Value.slice a8 SL c8]) (ns ++ [F.length])) := OU.push (hO.out.mono fun g hg => hg.1) (RowV.mono OT9.out (by have := S47.out; omega)) (fun q hq => by have := (OTH.out q hq).1; have := S47.out; show _ ≤ _; omega) (fun j hj g hg => (hO.out.far j hj g hg).2) (RowV.mono own1 S49.out) gr1
      have B9Y : Hid (Below w9.heap.size w9 y1) := below_step hB9.out gr1 hsy (fun q e => ROW.block_ge e)
      have NL : Hid ((ns ++ [F.length]).length ≤ 250) := by show _ ≤ _; rw [List.length_append, hn.out]; simp only [List.length_cons, List.length_nil]; omega
      have LL : Hid (∀ k, (ns ++ [F.length]).getD k 0 ≤ 1000000000) := fun k => by
        rw [List.getD_eq_getElem?_getD]
        rcases Nat.lt_or_ge k (ns ++ [F.length]).length with h | h
        · rw [List.getElem?_eq_getElem h]
          have hm := List.getElem_mem h
          rw [List.mem_append] at hm
          rcases hm with hm | hm
          · exact hle.out _ hm
          · rw [List.mem_singleton] at hm
            show (ns ++ [F.length])[k] ≤ _
            rw [hm, HJL'.out]; omega
        · rw [List.getElem?_eq_none h]; exact Nat.zero_le _
      have hb4 : w4.heap.size ≤ y1.heap.size := by have := B9Y.out.size; have := S49.out; omega
      have TLD : Hid (Calls Tryd.prog 24 #[o1] y1 fun e w' => e = .returned (.bool true) ∧ Marked w' o1 (vs ++ [Value.slice a8 SL c8]) (ns ++ [F.length]) ∧ Kp (TM (vs ++ [Value.slice a8 SL c8]) (ns ++ [F.length]).length) y1 w') := told_at _ _ _ o1 y1 NL.out LL.out hb4 OO.out.ti
      have FARM : Hid (∀ q, TM (vs ++ [Value.slice a8 SL c8]) (ns ++ [F.length]).length q → w4.heap.size ≤ q) := fun q ⟨j, hj, e⟩ => OO.out.far j hj q e
      have KEPT1 : Hid (RdB y1 v4 F) := Rd.later (RowV.rd K9.out) B9Y.out
      have FILE1 : Hid (RdB y1 (.slice a2 SL c2) F) := Rd.later F9.out B9Y.out
      have B01 : Hid (Below w0.heap.size w0 y1) := below_trans B09.out B9Y.out
      clear own1 gr1 OO hR hO hn hle VL OT9 ROW lp lq K9 hB9 B9Y
      go_wp2_with fail
      refine TLD.out.mono ?_
      rintro e z1 ⟨rfl, mk1, kp1⟩
      have MK : Hid (Marked z1 o1 (vs ++ [Value.slice a8 SL c8]) (ns ++ [F.length])) := mk1
      have B0z : Hid (Below w0.heap.size w0 z1) := below_kp B01.out kp1 (by have := S04.out; omega) (fun q hq => by have := FARM.out q hq; have := S04.out; omega)
      have KEPT : Hid (RdB z1 v4 F) := Rd.kp KEPT1.out kp1 (fun q hq hm => by have := FARM.out q hm; have := KB.out q hq; omega)
      have FILE : Hid (RdB z1 (.slice a2 SL c2) F) := Rd.kp FILE1.out kp1 (fun q hq hm => by have := FARM.out q hm; have := FB.out q hq; omega)
      clear mk1 kp1 TLD FARM KEPT1 FILE1 B01
      go_wp2_with fail
      refine (SCN.out _ _ B0z.out KEPT.out).mono ?_
      rintro e z2 ⟨a12, c12, rfl, r12, b12⟩
      have B12 : Hid (Below z1.heap.size z1 z2) := b12
      have R12 : Hid (RdR z2 (.slice a12 i c12) cs) := r12.rd
      clear r12 b12
      go_wp2_with fail
      refine (TWN.out _ (below_trans B0z.out B12.out)).mono ?_
      rintro e z3 ⟨a13, c13, rfl, r13, b13⟩
      have B23 : Hid (Below z2.heap.size z2 z3) := b13
      have R13 : Hid (RdR z3 (.slice a13 i c13) cs) := r13.rd
      clear r13 b13
      go_wp2_with fail
      refine (JN.out _ _ (below_trans B0z.out (below_trans B12.out B23.out)) R13.out).mono ?_
      rintro e z4 ⟨a14, c14, rfl, r14, b14⟩
      have B34 : Hid (Below z3.heap.size z3 z4) := b14
      have R14 : Hid (RdB z4 (.slice a14 F.length c14) F) := RowV.rd r14
      rw [HJL'.out] at R14 ⊢
      have B24 : Hid (Below z2.heap.size z2 z4) := below_trans B23.out B34.out
      have B14 : Hid (Below z1.heap.size z1 z4) := below_trans B12.out B24.out
      have B04 : Hid (Below w0.heap.size w0 z4) := below_trans B0z.out B14.out
      have KEPT4 : Hid (∀ n, RdB (z4.drewN n) v4 F) := fun n => Rd.drewN (Rd.later KEPT.out B14.out) n
      have FILE4 : Hid (∀ n, RdB (z4.drewN n) (.slice a2 SL c2) F) := fun n => Rd.drewN (Rd.later FILE.out B14.out) n
      have AG4 : Hid (∀ n, RdB (z4.drewN n) (.slice a14 SL c14) F) := fun n => Rd.drewN R14.out n
      have M4 : Hid (∀ n, RdR (z4.drewN n) (.slice a12 i c12) cs) := fun n => (R12.out.later B24.out).later (below_drewN (Below.refl _ _) n)
      have STL : Hid (∀ n, Calls Tryd.prog 25 #[o1] (z4.drewN n) fun e w' => e = .returned (.bool true) ∧ w' = z4.drewN n) := fun n => still_at _ _ o1 _ (by have := NL.out; omega) LL.out ((MK.out.later B14.out).later (below_drewN (Below.refl _ _) n))
      have FIN : Hid (∀ n, Below w0.heap.size w0 (z4.drewN n)) := fun n => below_drewN B04.out n
      have hF : F.length ≤ 140737488355328 := by rw [HJL'.out]; omega
      clear r14 b14 B34 B24 B14 B23 B12 R12 R13 R14 KEPT FILE MK
      go_wp2_with fail
      refine (SME.out F _ _ z4 hF (FILE4.out 0) (KEPT4.out 0)).mono ?_
      rintro e y ⟨rfl, m1, rfl⟩
      go_wp2_with fail
      refine (ALK.out _ _ (FIN.out _) (M4.out _)).mono ?_
      rintro e y ⟨rfl, m2, rfl⟩
      go_wp2_with fail
      refine (SME.out F _ _ _ hF (AG4.out _) (KEPT4.out _)).mono ?_
      rintro e y ⟨rfl, m3, rfl⟩
      go_wp2_with fail
      refine (STL.out _).mono ?_
      rintro e y ⟨rfl, rfl⟩
      go_wp2_with fail
      go_ret
      exact ⟨rfl, FIN.out _⟩
end Go.Proofs.YtbalmfghihgmgacDoor
