/-
  Ours: the walk of PolicyFeeBetween (gen_polfee.py).
-/
import Derived.Test.YtcjmjbhbdojeiaaPolMs
import Derived.Test.YtcjmjbhbdojeiaaPolFeM
import Derived.Deep.CutRange
import Derived.Deep.RegionHeld3
namespace Go.Proofs.Ytcjmjbhbdojeiaa
open Go.RowKit LedM PolM

theorem made_i64 (l : List Int) (k : Nat) : i64 ((madeL l).getD k 0) := by
  by_cases hk : k < 17
  · have h := made_fld l k hk
    have h1 := made_fld l 1 (by omega)
    have h5 := made_fld l 5 (by omega)
    have h14 := made_fld l 14 (by omega)
    have e1 : frm (madeL l) 1 = 0 := rfl
    have e5 : frm (madeL l) 5 = 0 := rfl
    have e14 : frm (madeL l) 14 = 1 := rfl
    have e2 : frm (madeL l) 2 = (madeL l).getD 1 0 + 1 := rfl
    have e6 : frm (madeL l) 6 = (madeL l).getD 5 0 := rfl
    have e15 : frm (madeL l) 15 = (madeL l).getD 14 0 := rfl
    have lo : 0 ≤ frm (madeL l) k := by
      match k, hk with
      | 0, _ => exact (by decide : (0 : Int) ≤ 1)
      | 1, _ => exact (by decide : (0 : Int) ≤ 0)
      | 2, _ => rw [e2]; omega
      | 3, _ => exact (by decide : (0 : Int) ≤ 1)
      | 4, _ => exact (by decide : (0 : Int) ≤ 0)
      | 5, _ => exact (by decide : (0 : Int) ≤ 0)
      | 6, _ => rw [e6]; omega
      | 7, _ => exact (by decide : (0 : Int) ≤ 0)
      | 8, _ => exact (by decide : (0 : Int) ≤ 0)
      | 9, _ => exact (by decide : (0 : Int) ≤ 0)
      | 10, _ => exact (by decide : (0 : Int) ≤ 1)
      | 11, _ => exact (by decide : (0 : Int) ≤ 0)
      | 12, _ => exact (by decide : (0 : Int) ≤ 0)
      | 13, _ => exact (by decide : (0 : Int) ≤ 0)
      | 14, _ => exact (by decide : (0 : Int) ≤ 1)
      | 15, _ => rw [e15]; omega
      | 16, _ => exact (by decide : (0 : Int) ≤ 0)
      | k + 17, h => omega
    have up : tov k ≤ 1000000000 := by
      match k, hk with
      | 0, _ => decide
      | 1, _ => decide
      | 2, _ => decide
      | 3, _ => decide
      | 4, _ => decide
      | 5, _ => decide
      | 6, _ => decide
      | 7, _ => decide
      | 8, _ => decide
      | 9, _ => decide
      | 10, _ => decide
      | 11, _ => decide
      | 12, _ => decide
      | 13, _ => decide
      | 14, _ => decide
      | 15, _ => decide
      | 16, _ => decide
      | k + 17, h => omega
    unfold i64
    omega
  · have : (madeL l).getD k 0 = 0 := by
      rw [List.getD_eq_getElem?_getD, List.getElem?_eq_none (by rw [made_len]; omega)]; rfl
    rw [this]
    exact ⟨by decide, by decide⟩

set_option maxRecDepth 20000 in
set_option maxHeartbeats 2000000 in
theorem between_any (l hs : List Int) (s : Value) (a : Int) (ha : i64 a) (w : World) (hl : l.length = 17) (ok : ∀ k, i64 (l.getD k 0)) (hr : Rd w s (bkL hs)) (okh : ∀ k, i64 (hs.getD k 0)) :
    Calls Try.prog 8 #[PV l s, .int .i64 a] w fun e w' => e = .returned (.bool true) ∧ Below w.heap.size w w' := by
  by_cases hbig : 1000 < hs.length
  · obtain ⟨ao, cp, rfl, -, -, -⟩ := hr
    rw [bkL_len]
    show Calls _ _ #[.agg (polL l (.slice ao hs.length cp)).toArray, _] _ _
    have c17 := (Blk.new 24 (polL l (.slice ao hs.length cp)) w).cell 17 _ (polL_hol hl)
    have BB : Hid (Below w.heap.size w (w.alloc (.cells (polL l (.slice ao hs.length cp)).toArray 24))) := below_alloc _ _
    generalize polL l (.slice ao hs.length cp) = cs at *
    generalize hs.length = N at *
    have hbig' : (1000 : Int) < (N : Int) := by omega
    go_enter Try.func8, Try.ntmps8
    go_wp2_with fail
    go_ret
    exact ⟨rfl, BB.out⟩
  by_cases hneg : a < 0
  · obtain ⟨ao, cp, rfl, -, -, -⟩ := hr
    rw [bkL_len]
    show Calls _ _ #[.agg (polL l (.slice ao hs.length cp)).toArray, _] _ _
    have c17 := (Blk.new 24 (polL l (.slice ao hs.length cp)) w).cell 17 _ (polL_hol hl)
    have BB : Hid (Below w.heap.size w (w.alloc (.cells (polL l (.slice ao hs.length cp)).toArray 24))) := below_alloc _ _
    generalize polL l (.slice ao hs.length cp) = cs at *
    generalize hs.length = N at *
    have hsm : ¬ (1000 : Int) < (N : Int) := by omega
    go_enter Try.func8, Try.ntmps8
    go_wp2_with fail
    go_ret
    exact ⟨rfl, BB.out⟩
  have hb : hs.length ≤ 1000000 := by omega
  have hsm : ¬ (1000 : Int) < (hs.length : Int) := by omega
  have MD : Hid (∀ w', Below w.heap.size w w' → Calls Try.prog 9 #[PV l s] w' fun e w'' => ∃ v, e = .returned (PV (madeL l) v) ∧ Rd w'' v (bkL (risL 0 64 hs)) ∧ Below w'.heap.size w' w'') := fun w' h => made_any l hs s w' hl ok (hr.later h) hb okh
  have LN : Hid ((madeL l).length = 17) := made_len l
  have GD : Hid (good (madeL l) (risL 0 64 hs) = true) := made_good l hs
  have HB : Hid ((risL 0 64 hs).length ≤ 1000000) := Nat.le_trans (risL_len hs 0 64) (by decide)
  have NU := nums GD.out
  have NS : Hid (Nums (madeL l)) := NU
  clear NU
  have SZ : Hid (∀ t : Value, (Try.prog.info? 24).map (·.size) = some (polL (madeL l) t).length) := fun t => by rw [polL_len LN.out]; exact sizeP
  have SZ0 : Hid (∀ t : Value, (Try.prog.info? 24).map (·.size) = some (polL l t).length) := fun t => by rw [polL_len hl]; exact sizeP
  have FT : Hid (∀ t : Value, 0 + (polL (madeL l) t).length ≤ polZ.length) := fun t => by rw [polL_len LN.out]; exact Nat.le_refl 18
  obtain ⟨ao, cp, rfl, -, -, -⟩ := hr
  rw [bkL_len] at MD ⊢
  show Calls _ _ #[.agg (polL l (.slice ao hs.length cp)).toArray, _] _ _
  have PB := Blk.new 24 (polL l (.slice ao hs.length cp)) w
  have c17 := PB.cell 17 _ (polL_hol hl)
  have BP : Hid (Blk w.heap.size 24 (polL l (.slice ao hs.length cp)) (w.alloc (.cells (polL l (.slice ao hs.length cp)).toArray 24))) := PB
  have BB : Hid (Below w.heap.size w (w.alloc (.cells (polL l (.slice ao hs.length cp)).toArray 24))) := below_alloc _ _
  have MI : Hid (∀ k, i64 ((madeL l).getD k 0)) := made_i64 l
  have LA : Hid (∀ (q : Value) (w' : World) (x : Int), i64 x → Rd w' q (bkL (risL 0 64 hs)) → Calls Try.prog 23 #[PV (madeL l) q, .int .i64 x] w' fun e w'' => e = .returned (.int .i64 (lateV (madeL l) x)) ∧ Below w'.heap.size w' w'') := fun q w' x hx h => by
    have := late_at (madeL l) (risL 0 64 hs) q w' LN.out MI.out h HB.out x hx
    rwa [GD.out, if_pos rfl] at this
  clear PB hl hbig ok okh
  generalize madeL l = ml at *
  generalize risL 0 64 hs = R at *
  go_enter Try.func8, Try.ntmps8
  go_wp2_with (first
  | (refine step_load rfl 24 _ rfl w.heap.size 0 rfl (polL l (.slice ao hs.length cp)) _ (Blk.all BP.out) Try.underlying24 rfl (SZ0.out _) ?_))
  refine (MD.out _ BB.out).mono ?_
  rintro e w1 ⟨v, rfl, rv, b1⟩
  have B1 : Hid (Below w.heap.size w w1) := below_trans BB.out b1
  have R1 : Hid (Rd w1 v (bkL R)) := rv
  have NZ : Hid (Blk w1.heap.size 24 polZ (w1.alloc (.cells #[.int .i64 0, .int .i64 0, .int .i64 0, .int .i64 0, .int .i64 0, .int .i64 0, .int .i64 0, .int .i64 0, .int .i64 0, .int .i64 0, .int .i64 0, .int .i64 0, .int .i64 0, .int .i64 0, .int .i64 0, .int .i64 0, .int .i64 0, .slice none 0 0] 24))) := Blk.new _ _ _
  have OV : Hid (∀ u ∈ polL ml v, u.oneCell' = true) := by
    obtain ⟨a1, c1, rfl, -, -, -⟩ := rv
    exact polL_one
  clear rv b1 c17 MD BP BB SZ0
  obtain ⟨G, hG⟩ : ∃ G, w1.heap.size = G := ⟨_, rfl⟩
  have HG : Hid (w1.heap.size = G) := hG
  clear hG
  go_upto_region 4 with (first
  | ((with_reducible refine at_store ?_); refine step_store rfl 24 _ _ rfl w1.heap.size 0 24 polZ (polL ml v) rfl rfl NZ.out (FT.out _) (SZ.out _) OV.out ?_; intro w2 nb2 g2))
  have S2 : Hid (MS w ml R v w1.heap.size w2) := MS.start LN.out B1.out R1.out nb2 g2
  rw [HG.out] at S2
  try rw [HG.out]
  clear nb2 g2 NZ R1 B1 OV FT
  have hu := Try.underlying24
  have hi := SZ.out v
  have LNl := LN.out
  obtain ⟨n1, n2⟩ := NS.out.rate
  obtain ⟨n3, n4⟩ := NS.out.least
  obtain ⟨n5, n6⟩ := NS.out.most
  obtain ⟨a1, a2⟩ := ha
  have a0 : 0 ≤ a := by omega
  have LV : Hid (∀ x, 0 ≤ x → lateV ml x = clV (mdV x (ml.getD 4 0) 10000) (ml.getD 5 0) (ml.getD 6 0)) := fun x hx => by unfold lateV; rw [if_neg (by omega)]
  obtain ⟨PO, -, P0, P1⟩ := bps_part a0 a2 n1 n2
  have MO : Hid (a + 1 ≤ 9223372036854775807 → lateV ml a ≤ lateV ml (a + 1)) := fun h => by
    rw [LV.out a a0, LV.out (a + 1) (by omega)]
    rcases clV_mono (a := ml.getD 5 0) (b := ml.getD 6 0) (bps_mono a0 h n1 n2) with h | h
    · exact h
    · omega
  have LF : Hid (∀ (q : Value) (w' : World), Rd w' q (bkL R) → Calls Try.prog 23 #[PV ml q, .int .i64 a] w' fun e w'' => e = .returned (.int .i64 (lateV ml a)) ∧ Below w'.heap.size w' w'') := fun q w' h => LA.out q w' a ⟨a1, a2⟩ h
  have LG : Hid (a + 1 ≤ 9223372036854775807 → ∀ (q : Value) (w' : World), Rd w' q (bkL R) → Calls Try.prog 23 #[PV ml q, .int .i64 (a + 1)] w' fun e w'' => e = .returned (.int .i64 (lateV ml (a + 1))) ∧ Below w'.heap.size w' w'') := fun hx q w' h => LA.out q w' (a + 1) ⟨by omega, hx⟩ h
  have BS : Hid (∀ w, Calls Try.prog 24 #[.int .i64 a, .int .i64 (ml.getD 4 0)] w fun e w' => e = .returned (.tuple #[.int .i64 (mdV a (ml.getD 4 0) 10000), .bool true]) ∧ Below w.heap.size w w') := fun w => by have := bps_at a (ml.getD 4 0) ⟨a1, a2⟩ (MI.out 4) w; rwa [PO] at this
  have FV : Hid (lateV ml a = clV (mdV a (ml.getD 4 0) 10000) (ml.getD 5 0) (ml.getD 6 0)) := LV.out a a0
  have C4 : Hid (∀ w', MS w ml R v G w' → w'.cell? ⟨G, 4, none⟩ = some (.int .i64 (ml.getD 4 0))) := fun w' h => h.cell LN.out 4 (by omega)
  have C5 : Hid (∀ w', MS w ml R v G w' → w'.cell? ⟨G, 5, none⟩ = some (.int .i64 (ml.getD 5 0)) ∧ w'.cell? ⟨G, 6, none⟩ = some (.int .i64 (ml.getD 6 0))) := fun w' h => ⟨h.cell LN.out 5 (by omega), h.cell LN.out 6 (by omega)⟩
  clear PO LA LV MI
  generalize lateV ml a = fee at *
  generalize lateV ml (a + 1) = fee2 at *
  generalize mdV a (ml.getD 4 0) 10000 = part at *
  generalize ml.getD 4 0 = r at *
  generalize ml.getD 5 0 = lo at *
  generalize ml.getD 6 0 = up at *
  go_wp2_with (first
  | (refine step_load rfl 24 _ rfl G 0 rfl (polL ml v) _ (Blk.all S2.out.q) Try.underlying24 rfl (SZ.out _) ?_)
  | (refine step_loadG rfl 24 _ rfl G 0 rfl (polL ml v) _ (Blk.all S2.out.q) Try.underlying24 rfl (SZ.out _) ?_))
  refine (LF.out _ _ S2.out.r).mono ?_
  rintro e w3 ⟨rfl, b3⟩
  have S3 : Hid (MS w ml R v G w3) := S2.out.later b3
  clear b3
  have c4 := C4.out _ S3.out
  go_wp2_with (first
  | (refine step_load rfl 24 _ rfl G 0 rfl (polL ml v) _ (Blk.all S3.out.q) Try.underlying24 rfl (SZ.out _) ?_)
  | (refine step_loadG rfl 24 _ rfl G 0 rfl (polL ml v) _ (Blk.all S3.out.q) Try.underlying24 rfl (SZ.out _) ?_))
  refine (BS.out _).mono ?_
  rintro e w4 ⟨rfl, b4⟩
  have S4 : Hid (MS w ml R v G w4) := S3.out.later b4
  clear b4
  obtain ⟨c5, c6⟩ := C5.out _ S4.out
  by_cases h1 : part < lo
  · obtain rfl : fee = lo := by rw [FV.out]; unfold clV; rw [if_pos h1]
    have e1 : (fee != fee) = false := by simp
    by_cases h9 : a = 9223372036854775807
    · have t9 : (a == 9223372036854775807) = true := by rw [h9]; rfl
      have H9 : Hid (a = 9223372036854775807) := h9
      clear h9
      go_wp2_with fail
      go_ret
      exact ⟨rfl, S4.out.bb⟩
    · have t9 : (a == 9223372036854775807) = false := beq_eq_false_iff_ne.2 h9
      have a3 : a + 1 ≤ 9223372036854775807 := by omega
      have MM : Hid (fee ≤ fee2) := MO.out a3
      have LH : Hid (∀ (q : Value) (w' : World), Rd w' q (bkL R) → Calls Try.prog 23 #[PV ml q, .int .i64 (a + 1)] w' fun e w'' => e = .returned (.int .i64 fee2) ∧ Below w'.heap.size w' w'') := LG.out a3
      clear h9 LG LF MO BS C4 C5
      go_wp2_with (first
      | (refine step_load rfl 24 _ rfl G 0 rfl (polL ml v) _ (Blk.all S4.out.q) Try.underlying24 rfl (SZ.out _) ?_)
      | (refine step_loadG rfl 24 _ rfl G 0 rfl (polL ml v) _ (Blk.all S4.out.q) Try.underlying24 rfl (SZ.out _) ?_))
      refine (LH.out _ _ S4.out.r).mono ?_
      rintro e w5 ⟨rfl, b5⟩
      have S5 : Hid (MS w ml R v G w5) := S4.out.later b5
      clear b5
      go_wp2_with fail
      go_ret
      exact ⟨ret_dec MM.out, S5.out.bb⟩
  by_cases h2 : up < part
  · obtain rfl : fee = up := by rw [FV.out]; unfold clV; rw [if_neg h1, if_pos h2]
    have e1 : (fee != fee) = false := by simp
    by_cases h9 : a = 9223372036854775807
    · have t9 : (a == 9223372036854775807) = true := by rw [h9]; rfl
      have H9 : Hid (a = 9223372036854775807) := h9
      clear h9
      go_wp2_with fail
      go_ret
      exact ⟨rfl, S4.out.bb⟩
    · have t9 : (a == 9223372036854775807) = false := beq_eq_false_iff_ne.2 h9
      have a3 : a + 1 ≤ 9223372036854775807 := by omega
      have MM : Hid (fee ≤ fee2) := MO.out a3
      have LH : Hid (∀ (q : Value) (w' : World), Rd w' q (bkL R) → Calls Try.prog 23 #[PV ml q, .int .i64 (a + 1)] w' fun e w'' => e = .returned (.int .i64 fee2) ∧ Below w'.heap.size w' w'') := LG.out a3
      clear h9 LG LF MO BS C4 C5
      go_wp2_with (first
      | (refine step_load rfl 24 _ rfl G 0 rfl (polL ml v) _ (Blk.all S4.out.q) Try.underlying24 rfl (SZ.out _) ?_)
      | (refine step_loadG rfl 24 _ rfl G 0 rfl (polL ml v) _ (Blk.all S4.out.q) Try.underlying24 rfl (SZ.out _) ?_))
      refine (LH.out _ _ S4.out.r).mono ?_
      rintro e w5 ⟨rfl, b5⟩
      have S5 : Hid (MS w ml R v G w5) := S4.out.later b5
      clear b5
      go_wp2_with fail
      go_ret
      exact ⟨ret_dec MM.out, S5.out.bb⟩
  · obtain rfl : fee = part := by rw [FV.out]; unfold clV; rw [if_neg h1, if_neg h2]
    have e1 : (fee != fee) = false := by simp
    by_cases h9 : a = 9223372036854775807
    · have t9 : (a == 9223372036854775807) = true := by rw [h9]; rfl
      have H9 : Hid (a = 9223372036854775807) := h9
      clear h9
      go_wp2_with fail
      go_ret
      exact ⟨rfl, S4.out.bb⟩
    · have t9 : (a == 9223372036854775807) = false := beq_eq_false_iff_ne.2 h9
      have a3 : a + 1 ≤ 9223372036854775807 := by omega
      have MM : Hid (fee ≤ fee2) := MO.out a3
      have LH : Hid (∀ (q : Value) (w' : World), Rd w' q (bkL R) → Calls Try.prog 23 #[PV ml q, .int .i64 (a + 1)] w' fun e w'' => e = .returned (.int .i64 fee2) ∧ Below w'.heap.size w' w'') := LG.out a3
      clear h9 LG LF MO BS C4 C5
      go_wp2_with (first
      | (refine step_load rfl 24 _ rfl G 0 rfl (polL ml v) _ (Blk.all S4.out.q) Try.underlying24 rfl (SZ.out _) ?_)
      | (refine step_loadG rfl 24 _ rfl G 0 rfl (polL ml v) _ (Blk.all S4.out.q) Try.underlying24 rfl (SZ.out _) ?_))
      refine (LH.out _ _ S4.out.r).mono ?_
      rintro e w5 ⟨rfl, b5⟩
      have S5 : Hid (MS w ml R v G w5) := S4.out.later b5
      clear b5
      go_wp2_with fail
      go_ret
      exact ⟨ret_dec MM.out, S5.out.bb⟩
end Go.Proofs.Ytcjmjbhbdojeiaa
