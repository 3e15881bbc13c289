/-
  Ours: the walk of PolicyBounds (gen_pollaw.py).
-/
import Derived.Test.YtcjmjbhbdojeiaaPolSt
import Derived.Test.YtcjmjbhbdojeiaaPolRf3
import Derived.Deep.CutRange
namespace Go.Proofs.Ytcjmjbhbdojeiaa
open Go.RowKit LedM PolM

set_option maxRecDepth 20000 in
set_option maxHeartbeats 2000000 in
theorem bounds_any (l hs : List Int) (s : Value) (att : Int) (ha : i64 att) (w : World) (hl : l.length = 17) (hr : Rd w s (bkL hs)) :
    Calls Try.prog 7 #[PV l s, .int .i64 att] w fun e w' => e = .returned (.bool true) ∧ Below w.heap.size w w' := by
  by_cases hbig : 1000 < hs.length
  · obtain ⟨ao, cp, rfl, -, -, -⟩ := hr
    rw [bkL_len]
    show Calls _ _ #[.agg (polL l (.slice ao hs.length cp)).toArray, _] _ _
    have c17 := (Blk.new 24 (polL l (.slice ao hs.length cp)) w).cell 17 _ (polL_hol hl)
    have BB : Hid (Below w.heap.size w (w.alloc (.cells (polL l (.slice ao hs.length cp)).toArray 24))) := below_alloc _ _
    generalize polL l (.slice ao hs.length cp) = cs at *
    generalize hs.length = N at *
    have hbig' : (1000 : Int) < (N : Int) := by omega
    go_enter Try.func7, Try.ntmps7
    go_wp2_with fail
    go_ret
    exact ⟨rfl, BB.out⟩
  have hb : hs.length ≤ 1000000 := by omega
  have hsm : ¬ (1000 : Int) < (hs.length : Int) := by omega
  have LN : Hid (l.length = 17) := hl
  have OW : Hid (∀ w', Below w.heap.size w w' → Calls Try.prog 14 #[PV l s] w' fun e w'' => ∃ g cap, e = .returned (.tuple #[PV l (.slice (some ⟨g, 0, none⟩) hs.length cap), .slice (some ⟨g, 0, none⟩) (hs.length + 3) cap]) ∧ RowV 3 w'.heap.size w'' (.slice (some ⟨g, 0, none⟩) (hs.length + 3) cap) (bkL (hs ++ [-7, -8, -9])) ∧ Below w'.heap.size w' w'') := fun w' h => own_at l hs s w' hl (hr.later h) hb
  have RS : Hid (∀ w', Below w.heap.size w w' → Rd w' s (bkL hs)) := fun w' h => hr.later h
  have HB : Hid (hs.length ≤ 1000000) := hb
  have SZ : Hid (∀ t : Value, (Try.prog.info? 24).map (·.size) = some (polL l t).length) := fun t => by rw [polL_len hl]; exact sizeP
  have FT : Hid (∀ t : Value, 0 + (polL l t).length ≤ polZ.length) := fun t => by rw [polL_len hl]; exact Nat.le_refl 18
  have COP : Hid (∀ w', Below w.heap.size w w' → Calls Try.prog 17 #[s] w' fun e w'' => ∃ v, e = .returned v ∧ RowV 3 w'.heap.size w'' v (bkL (hs ++ [-7, -8, -9])) ∧ Below w'.heap.size w' w'') := fun w' h => copied_at hs s w' (hr.later h) hb
  have SAM : Hid (∀ va vb w', Rd w' va (bkL (hs ++ [-7, -8, -9])) → Rd w' vb (bkL (hs ++ [-7, -8, -9])) → Calls Try.prog 16 #[va, vb] w' fun e w'' => e = .returned (.bool true) ∧ Below w'.heap.size w' w'') := fun va vb w' h1 h2 => (same_at _ _ va vb w' (by rw [List.length_append]; simp; omega) h1 h2).mono fun e w'' ⟨h, h'⟩ => ⟨by rw [h, decide_eq_true rfl], h'⟩
  obtain ⟨ao, cp, rfl, -, -, -⟩ := hr
  rw [bkL_len] at OW RS COP ⊢
  show Calls _ _ #[.agg (polL l (.slice ao hs.length cp)).toArray, _] _ _
  have PB := Blk.new 24 (polL l (.slice ao hs.length cp)) w
  have c17 := PB.cell 17 _ (polL_hol hl)
  have BP : Hid (Blk w.heap.size 24 (polL l (.slice ao hs.length cp)) (w.alloc (.cells (polL l (.slice ao hs.length cp)).toArray 24))) := PB
  have BB : Hid (Below w.heap.size w (w.alloc (.cells (polL l (.slice ao hs.length cp)).toArray 24))) := below_alloc _ _
  have BO : Hid (∀ (q : Value) (w' : World), Rd w' q (bkL hs) → Calls Try.prog 13 #[PV l q, .int .i64 att] w' fun e w'' => e = .returned (.int .i64 (if good l hs then bkV (l.getD 14 0) (l.getD 15 0) att else 0)) ∧ Below w'.heap.size w' w'') := fun q w' h => backoff_at l hs q w' LN.out h HB.out att ha
  have RB : Hid (∀ w', Below w.heap.size w w' → Calls Try.prog 19 #[PV l (.slice ao hs.length cp), .int .i64 att] w' fun e w'' => e = .returned (.int .i64 (if good l hs then bkV (l.getD 14 0) (l.getD 15 0) att else 0)) ∧ Below w'.heap.size w' w'') := fun w' h => rbackoff_at l hs _ w' LN.out (RS.out w' h) HB.out att ha
  have BN : Hid (∀ (q : Value) (w' : World), Rd w' q (bkL hs) → Calls Try.prog 20 #[PV l q] w' fun e w'' => e = .returned (.int .i64 (if good l hs then l.getD 3 0 + l.getD 9 0 * l.getD 10 0 else 0)) ∧ Below w'.heap.size w' w'') := fun q w' h => bound_at l hs q w' LN.out h HB.out
  have RN : Hid (∀ w', Below w.heap.size w w' → Calls Try.prog 21 #[PV l (.slice ao hs.length cp)] w' fun e w'' => e = .returned (.int .i64 (if good l hs then l.getD 3 0 + l.getD 9 0 * l.getD 10 0 else 0)) ∧ Below w'.heap.size w' w'') := fun w' h => rbound_at l hs _ w' LN.out (RS.out w' h) HB.out
  have WI : Hid (∀ (q : Value) (w' : World), Rd w' q (bkL hs) → Calls Try.prog 18 #[PV l q] w' fun e w'' => e = .returned (.int .i64 (if good l hs then l.getD 15 0 + 2 else 0)) ∧ Below w'.heap.size w' w'') := fun q w' h => window_at l hs q w' LN.out h HB.out
  have RW : Hid (∀ w', Below w.heap.size w w' → Calls Try.prog 22 #[PV l (.slice ao hs.length cp)] w' fun e w'' => e = .returned (.int .i64 (if good l hs then l.getD 15 0 + 2 else 0)) ∧ Below w'.heap.size w' w'') := fun w' h => rwindow_at l hs _ w' LN.out (RS.out w' h) HB.out
  generalize (if good l hs then bkV (l.getD 14 0) (l.getD 15 0) att else 0) = xb at *
  generalize (if good l hs then l.getD 3 0 + l.getD 9 0 * l.getD 10 0 else 0) = xn at *
  generalize (if good l hs then l.getD 15 0 + 2 else 0) = xw at *
  have e1 : (xb != xb) = false := by simp
  have e2 : (xn == xn) = true := by simp
  have e3 : (xw == xw) = true := by simp
  clear PB hl hbig
  go_enter Try.func7, Try.ntmps7
  go_wp2_with (first
  | (refine step_load rfl 24 _ rfl w.heap.size 0 rfl (polL l (.slice ao hs.length cp)) _ (Blk.all BP.out) Try.underlying24 rfl (SZ.out _) ?_))
  refine (OW.out _ BB.out).mono ?_
  rintro e w1 ⟨g, cap, rfl, rv, b1⟩
  have B1 : Hid (Below w.heap.size w w1) := below_trans BB.out b1
  have P1 : Hid (Blk w.heap.size 24 (polL l (.slice ao hs.length cp)) w1) := BP.out.below b1
  have R1 : Hid (RowV 3 (w.heap.size + 1) w1 (.slice (some ⟨g, 0, none⟩) (hs.length + 3) cap) (bkL (hs ++ [-7, -8, -9]))) := rv.mono (by simp)
  have NZ : Hid (Blk w1.heap.size 24 polZ (w1.alloc (.cells #[.int .i64 0, .int .i64 0, .int .i64 0, .int .i64 0, .int .i64 0, .int .i64 0, .int .i64 0, .int .i64 0, .int .i64 0, .int .i64 0, .int .i64 0, .int .i64 0, .int .i64 0, .int .i64 0, .int .i64 0, .int .i64 0, .int .i64 0, .slice none 0 0] 24))) := Blk.new _ _ _
  clear rv b1 c17 OW BP BB
  obtain ⟨G, hG⟩ : ∃ G, w1.heap.size = G := ⟨_, rfl⟩
  have HG : Hid (w1.heap.size = G) := hG
  clear hG
  go_upto_region 4 with (first
  | ((with_reducible refine at_store ?_); refine step_store rfl 24 _ _ rfl w1.heap.size 0 24 polZ (polL l (.slice (some ⟨g, 0, none⟩) hs.length cap)) rfl rfl NZ.out (FT.out _) (SZ.out _) polL_one ?_; intro w2 nb2 g2))
  have S2 : Hid (LS w l hs (.slice ao hs.length cp) g cap w1.heap.size w2) := LS.start LN.out B1.out P1.out R1.out nb2 g2
  rw [HG.out] at S2
  try rw [HG.out]
  clear nb2 g2 NZ R1 P1 B1
  go_wp2_with (first
  | (refine step_load rfl 24 _ rfl w.heap.size 0 rfl (polL l (.slice ao hs.length cp)) _ (Blk.all S2.out.p) Try.underlying24 rfl (SZ.out _) ?_)
  | (refine step_load rfl 24 _ rfl G 0 rfl (polL l (.slice (some ⟨g, 0, none⟩) hs.length cap)) _ (Blk.all S2.out.q) Try.underlying24 rfl (SZ.out _) ?_)
  | (refine step_loadG rfl 24 _ rfl w.heap.size 0 rfl (polL l (.slice ao hs.length cp)) _ (Blk.all S2.out.p) Try.underlying24 rfl (SZ.out _) ?_)
  | (refine step_loadG rfl 24 _ rfl G 0 rfl (polL l (.slice (some ⟨g, 0, none⟩) hs.length cap)) _ (Blk.all S2.out.q) Try.underlying24 rfl (SZ.out _) ?_))
  refine (BO.out _ _ S2.out.rq).mono ?_
  rintro e w3 ⟨rfl, b3⟩
  have S3 : Hid (LS w l hs (.slice ao hs.length cp) g cap G w3) := S2.out.later b3
  have c3 := S3.out.p.cell 17 _ (polL_hol LN.out)
  clear b3
  go_wp2_with (first
  | (refine step_load rfl 24 _ rfl w.heap.size 0 rfl (polL l (.slice ao hs.length cp)) _ (Blk.all S3.out.p) Try.underlying24 rfl (SZ.out _) ?_)
  | (refine step_load rfl 24 _ rfl G 0 rfl (polL l (.slice (some ⟨g, 0, none⟩) hs.length cap)) _ (Blk.all S3.out.q) Try.underlying24 rfl (SZ.out _) ?_)
  | (refine step_loadG rfl 24 _ rfl w.heap.size 0 rfl (polL l (.slice ao hs.length cp)) _ (Blk.all S3.out.p) Try.underlying24 rfl (SZ.out _) ?_)
  | (refine step_loadG rfl 24 _ rfl G 0 rfl (polL l (.slice (some ⟨g, 0, none⟩) hs.length cap)) _ (Blk.all S3.out.q) Try.underlying24 rfl (SZ.out _) ?_))
  refine (RB.out _ S3.out.bb).mono ?_
  rintro e w4 ⟨rfl, b4⟩
  have S4 : Hid (LS w l hs (.slice ao hs.length cp) g cap G w4) := S3.out.later b4
  have c4 := S4.out.p.cell 17 _ (polL_hol LN.out)
  clear b4
  go_wp2_with (first
  | (refine step_load rfl 24 _ rfl w.heap.size 0 rfl (polL l (.slice ao hs.length cp)) _ (Blk.all S4.out.p) Try.underlying24 rfl (SZ.out _) ?_)
  | (refine step_load rfl 24 _ rfl G 0 rfl (polL l (.slice (some ⟨g, 0, none⟩) hs.length cap)) _ (Blk.all S4.out.q) Try.underlying24 rfl (SZ.out _) ?_)
  | (refine step_loadG rfl 24 _ rfl w.heap.size 0 rfl (polL l (.slice ao hs.length cp)) _ (Blk.all S4.out.p) Try.underlying24 rfl (SZ.out _) ?_)
  | (refine step_loadG rfl 24 _ rfl G 0 rfl (polL l (.slice (some ⟨g, 0, none⟩) hs.length cap)) _ (Blk.all S4.out.q) Try.underlying24 rfl (SZ.out _) ?_))
  refine (COP.out _ S4.out.bb).mono ?_
  rintro e w5 ⟨v5, rfl, rv5, b5⟩
  have S5 : Hid (LS w l hs (.slice ao hs.length cp) g cap G w5) := S4.out.later b5
  have RV5 : Hid (Rd w5 v5 (bkL (hs ++ [-7, -8, -9]))) := rv5.rd
  clear b5 rv5
  go_wp2_with (first
  | (refine step_load rfl 24 _ rfl w.heap.size 0 rfl (polL l (.slice ao hs.length cp)) _ (Blk.all S5.out.p) Try.underlying24 rfl (SZ.out _) ?_)
  | (refine step_load rfl 24 _ rfl G 0 rfl (polL l (.slice (some ⟨g, 0, none⟩) hs.length cap)) _ (Blk.all S5.out.q) Try.underlying24 rfl (SZ.out _) ?_)
  | (refine step_loadG rfl 24 _ rfl w.heap.size 0 rfl (polL l (.slice ao hs.length cp)) _ (Blk.all S5.out.p) Try.underlying24 rfl (SZ.out _) ?_)
  | (refine step_loadG rfl 24 _ rfl G 0 rfl (polL l (.slice (some ⟨g, 0, none⟩) hs.length cap)) _ (Blk.all S5.out.q) Try.underlying24 rfl (SZ.out _) ?_))
  refine (SAM.out _ _ _ S5.out.h.rd RV5.out).mono ?_
  rintro e w6 ⟨rfl, b6⟩
  have S6 : Hid (LS w l hs (.slice ao hs.length cp) g cap G w6) := S5.out.later b6
  have c6 := S6.out.p.cell 17 _ (polL_hol LN.out)
  clear b6
  go_wp2_with (first
  | (refine step_load rfl 24 _ rfl w.heap.size 0 rfl (polL l (.slice ao hs.length cp)) _ (Blk.all S6.out.p) Try.underlying24 rfl (SZ.out _) ?_)
  | (refine step_load rfl 24 _ rfl G 0 rfl (polL l (.slice (some ⟨g, 0, none⟩) hs.length cap)) _ (Blk.all S6.out.q) Try.underlying24 rfl (SZ.out _) ?_)
  | (refine step_loadG rfl 24 _ rfl w.heap.size 0 rfl (polL l (.slice ao hs.length cp)) _ (Blk.all S6.out.p) Try.underlying24 rfl (SZ.out _) ?_)
  | (refine step_loadG rfl 24 _ rfl G 0 rfl (polL l (.slice (some ⟨g, 0, none⟩) hs.length cap)) _ (Blk.all S6.out.q) Try.underlying24 rfl (SZ.out _) ?_))
  refine (BN.out _ _ S6.out.rq).mono ?_
  rintro e w7 ⟨rfl, b7⟩
  have S7 : Hid (LS w l hs (.slice ao hs.length cp) g cap G w7) := S6.out.later b7
  have c7 := S7.out.p.cell 17 _ (polL_hol LN.out)
  clear b7
  go_wp2_with (first
  | (refine step_load rfl 24 _ rfl w.heap.size 0 rfl (polL l (.slice ao hs.length cp)) _ (Blk.all S7.out.p) Try.underlying24 rfl (SZ.out _) ?_)
  | (refine step_load rfl 24 _ rfl G 0 rfl (polL l (.slice (some ⟨g, 0, none⟩) hs.length cap)) _ (Blk.all S7.out.q) Try.underlying24 rfl (SZ.out _) ?_)
  | (refine step_loadG rfl 24 _ rfl w.heap.size 0 rfl (polL l (.slice ao hs.length cp)) _ (Blk.all S7.out.p) Try.underlying24 rfl (SZ.out _) ?_)
  | (refine step_loadG rfl 24 _ rfl G 0 rfl (polL l (.slice (some ⟨g, 0, none⟩) hs.length cap)) _ (Blk.all S7.out.q) Try.underlying24 rfl (SZ.out _) ?_))
  refine (WI.out _ _ S7.out.rq).mono ?_
  rintro e w8 ⟨rfl, b8⟩
  have S8 : Hid (LS w l hs (.slice ao hs.length cp) g cap G w8) := S7.out.later b8
  have c8 := S8.out.p.cell 17 _ (polL_hol LN.out)
  clear b8
  go_wp2_with (first
  | (refine step_load rfl 24 _ rfl w.heap.size 0 rfl (polL l (.slice ao hs.length cp)) _ (Blk.all S8.out.p) Try.underlying24 rfl (SZ.out _) ?_)
  | (refine step_load rfl 24 _ rfl G 0 rfl (polL l (.slice (some ⟨g, 0, none⟩) hs.length cap)) _ (Blk.all S8.out.q) Try.underlying24 rfl (SZ.out _) ?_)
  | (refine step_loadG rfl 24 _ rfl w.heap.size 0 rfl (polL l (.slice ao hs.length cp)) _ (Blk.all S8.out.p) Try.underlying24 rfl (SZ.out _) ?_)
  | (refine step_loadG rfl 24 _ rfl G 0 rfl (polL l (.slice (some ⟨g, 0, none⟩) hs.length cap)) _ (Blk.all S8.out.q) Try.underlying24 rfl (SZ.out _) ?_))
  refine (RN.out _ S8.out.bb).mono ?_
  rintro e w9 ⟨rfl, b9⟩
  have S9 : Hid (LS w l hs (.slice ao hs.length cp) g cap G w9) := S8.out.later b9
  have c9 := S9.out.p.cell 17 _ (polL_hol LN.out)
  clear b9
  go_wp2_with (first
  | (refine step_load rfl 24 _ rfl w.heap.size 0 rfl (polL l (.slice ao hs.length cp)) _ (Blk.all S9.out.p) Try.underlying24 rfl (SZ.out _) ?_)
  | (refine step_load rfl 24 _ rfl G 0 rfl (polL l (.slice (some ⟨g, 0, none⟩) hs.length cap)) _ (Blk.all S9.out.q) Try.underlying24 rfl (SZ.out _) ?_)
  | (refine step_loadG rfl 24 _ rfl w.heap.size 0 rfl (polL l (.slice ao hs.length cp)) _ (Blk.all S9.out.p) Try.underlying24 rfl (SZ.out _) ?_)
  | (refine step_loadG rfl 24 _ rfl G 0 rfl (polL l (.slice (some ⟨g, 0, none⟩) hs.length cap)) _ (Blk.all S9.out.q) Try.underlying24 rfl (SZ.out _) ?_))
  refine (RW.out _ S9.out.bb).mono ?_
  rintro e w10 ⟨rfl, b10⟩
  have S10 : Hid (LS w l hs (.slice ao hs.length cp) g cap G w10) := S9.out.later b10
  have c10 := S10.out.p.cell 17 _ (polL_hol LN.out)
  clear b10
  go_wp2_with (first
  | (refine step_load rfl 24 _ rfl w.heap.size 0 rfl (polL l (.slice ao hs.length cp)) _ (Blk.all S10.out.p) Try.underlying24 rfl (SZ.out _) ?_)
  | (refine step_load rfl 24 _ rfl G 0 rfl (polL l (.slice (some ⟨g, 0, none⟩) hs.length cap)) _ (Blk.all S10.out.q) Try.underlying24 rfl (SZ.out _) ?_)
  | (refine step_loadG rfl 24 _ rfl w.heap.size 0 rfl (polL l (.slice ao hs.length cp)) _ (Blk.all S10.out.p) Try.underlying24 rfl (SZ.out _) ?_)
  | (refine step_loadG rfl 24 _ rfl G 0 rfl (polL l (.slice (some ⟨g, 0, none⟩) hs.length cap)) _ (Blk.all S10.out.q) Try.underlying24 rfl (SZ.out _) ?_))
  refine (COP.out _ S10.out.bb).mono ?_
  rintro e w11 ⟨v11, rfl, rv11, b11⟩
  have S11 : Hid (LS w l hs (.slice ao hs.length cp) g cap G w11) := S10.out.later b11
  have RV11 : Hid (Rd w11 v11 (bkL (hs ++ [-7, -8, -9]))) := rv11.rd
  clear b11 rv11
  go_wp2_with (first
  | (refine step_load rfl 24 _ rfl w.heap.size 0 rfl (polL l (.slice ao hs.length cp)) _ (Blk.all S11.out.p) Try.underlying24 rfl (SZ.out _) ?_)
  | (refine step_load rfl 24 _ rfl G 0 rfl (polL l (.slice (some ⟨g, 0, none⟩) hs.length cap)) _ (Blk.all S11.out.q) Try.underlying24 rfl (SZ.out _) ?_)
  | (refine step_loadG rfl 24 _ rfl w.heap.size 0 rfl (polL l (.slice ao hs.length cp)) _ (Blk.all S11.out.p) Try.underlying24 rfl (SZ.out _) ?_)
  | (refine step_loadG rfl 24 _ rfl G 0 rfl (polL l (.slice (some ⟨g, 0, none⟩) hs.length cap)) _ (Blk.all S11.out.q) Try.underlying24 rfl (SZ.out _) ?_))
  refine (SAM.out _ _ _ S11.out.h.rd RV11.out).mono ?_
  rintro e w12 ⟨rfl, b12⟩
  have S12 : Hid (LS w l hs (.slice ao hs.length cp) g cap G w12) := S11.out.later b12
  have c12 := S12.out.p.cell 17 _ (polL_hol LN.out)
  clear b12
  go_wp2_with (first
  | (refine step_load rfl 24 _ rfl w.heap.size 0 rfl (polL l (.slice ao hs.length cp)) _ (Blk.all S12.out.p) Try.underlying24 rfl (SZ.out _) ?_)
  | (refine step_load rfl 24 _ rfl G 0 rfl (polL l (.slice (some ⟨g, 0, none⟩) hs.length cap)) _ (Blk.all S12.out.q) Try.underlying24 rfl (SZ.out _) ?_)
  | (refine step_loadG rfl 24 _ rfl w.heap.size 0 rfl (polL l (.slice ao hs.length cp)) _ (Blk.all S12.out.p) Try.underlying24 rfl (SZ.out _) ?_)
  | (refine step_loadG rfl 24 _ rfl G 0 rfl (polL l (.slice (some ⟨g, 0, none⟩) hs.length cap)) _ (Blk.all S12.out.q) Try.underlying24 rfl (SZ.out _) ?_))
  go_ret
  exact ⟨rfl, S12.out.bb⟩
end Go.Proofs.Ytcjmjbhbdojeiaa
