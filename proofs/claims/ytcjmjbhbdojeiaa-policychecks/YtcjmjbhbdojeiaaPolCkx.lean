/-
  Ours: the walk of PolicyChecks (gen_pollaw.py).
-/
import Derived.Test.YtcjmjbhbdojeiaaPolSt
import Derived.Test.YtcjmjbhbdojeiaaPolRf2
import Derived.Test.YtcjmjbhbdojeiaaPolChk
import Derived.Deep.CutRange
namespace Go.Proofs.Ytcjmjbhbdojeiaa
open Go.RowKit LedM PolM

set_option maxRecDepth 20000 in
set_option maxHeartbeats 2000000 in
theorem checks_any (l hs : List Int) (s : Value) (w : World) (hl : l.length = 17) (hr : Rd w s (bkL hs)) :
    Calls Try.prog 5 #[PV l s] w fun e w' => e = .returned (.bool true) ∧ Below w.heap.size w w' := by
  by_cases hbig : 1000 < hs.length
  · obtain ⟨ao, cp, rfl, -, -, -⟩ := hr
    rw [bkL_len]
    show Calls _ _ #[.agg (polL l (.slice ao hs.length cp)).toArray] _ _
    have c17 := (Blk.new 24 (polL l (.slice ao hs.length cp)) w).cell 17 _ (polL_hol hl)
    have BB : Hid (Below w.heap.size w (w.alloc (.cells (polL l (.slice ao hs.length cp)).toArray 24))) := below_alloc _ _
    generalize polL l (.slice ao hs.length cp) = cs at *
    generalize hs.length = N at *
    have hbig' : (1000 : Int) < (N : Int) := by omega
    go_enter Try.func5, Try.ntmps5
    go_wp2_with fail
    go_ret
    exact ⟨rfl, BB.out⟩
  have hb : hs.length ≤ 1000000 := by omega
  have hsm : ¬ (1000 : Int) < (hs.length : Int) := by omega
  have LN : Hid (l.length = 17) := hl
  have OW : Hid (∀ w', Below w.heap.size w w' → Calls Try.prog 14 #[PV l s] w' fun e w'' => ∃ g cap, e = .returned (.tuple #[PV l (.slice (some ⟨g, 0, none⟩) hs.length cap), .slice (some ⟨g, 0, none⟩) (hs.length + 3) cap]) ∧ RowV 3 w'.heap.size w'' (.slice (some ⟨g, 0, none⟩) (hs.length + 3) cap) (bkL (hs ++ [-7, -8, -9])) ∧ Below w'.heap.size w' w'') := fun w' h => own_at l hs s w' hl (hr.later h) hb
  have RS : Hid (∀ w', Below w.heap.size w w' → Rd w' s (bkL hs)) := fun w' h => hr.later h
  have HB : Hid (hs.length ≤ 1000000) := hb
  have SZ : Hid (∀ t : Value, (Try.prog.info? 24).map (·.size) = some (polL l t).length) := fun t => by rw [polL_len hl]; exact sizeP
  have FT : Hid (∀ t : Value, 0 + (polL l t).length ≤ polZ.length) := fun t => by rw [polL_len hl]; exact Nat.le_refl 18
  have COP : Hid (∀ w', Below w.heap.size w w' → Calls Try.prog 17 #[s] w' fun e w'' => ∃ v, e = .returned v ∧ RowV 3 w'.heap.size w'' v (bkL (hs ++ [-7, -8, -9])) ∧ Below w'.heap.size w' w'') := fun w' h => copied_at hs s w' (hr.later h) hb
  have SAM : Hid (∀ va vb w', Rd w' va (bkL (hs ++ [-7, -8, -9])) → Rd w' vb (bkL (hs ++ [-7, -8, -9])) → Calls Try.prog 16 #[va, vb] w' fun e w'' => e = .returned (.bool true) ∧ Below w'.heap.size w' w'') := fun va vb w' h1 h2 => (same_at _ _ va vb w' (by rw [List.length_append]; simp; omega) h1 h2).mono fun e w'' ⟨h, h'⟩ => ⟨by rw [h, decide_eq_true rfl], h'⟩
  obtain ⟨ao, cp, rfl, -, -, -⟩ := hr
  rw [bkL_len] at OW RS COP ⊢
  show Calls _ _ #[.agg (polL l (.slice ao hs.length cp)).toArray] _ _
  have PB := Blk.new 24 (polL l (.slice ao hs.length cp)) w
  have c17 := PB.cell 17 _ (polL_hol hl)
  have BP : Hid (Blk w.heap.size 24 (polL l (.slice ao hs.length cp)) (w.alloc (.cells (polL l (.slice ao hs.length cp)).toArray 24))) := PB
  have BB : Hid (Below w.heap.size w (w.alloc (.cells (polL l (.slice ao hs.length cp)).toArray 24))) := below_alloc _ _
  have CK : Hid (∀ (q : Value) (w' : World), Rd w' q (bkL hs) → Calls Try.prog 10 #[PV l q] w' fun e w'' => e = .returned (.tuple #[.int .i64 (ev (chk l hs)), .int .i64 (chk l hs : Int)]) ∧ Below w'.heap.size w' w'') := fun q w' h => check_at l hs q w' LN.out h HB.out
  have RC : Hid (∀ w', Below w.heap.size w w' → Calls Try.prog 15 #[PV l (.slice ao hs.length cp)] w' fun e w'' => e = .returned (.tuple #[.int .i64 (ev (chk l hs)), .int .i64 (chk l hs : Int)]) ∧ Below w'.heap.size w' w'') := fun w' h => rcheck_at l hs _ w' LN.out (RS.out w' h) HB.out
  have CK2 : Hid (∀ (q : Value) (w' : World), Rd w' q (bkL (hs.set 0 0)) → Calls Try.prog 10 #[PV l q] w' fun e w'' => e = .returned (.tuple #[.int .i64 (ev (chk l (hs.set 0 0))), .int .i64 (chk l (hs.set 0 0) : Int)]) ∧ Below w'.heap.size w' w'') := fun q w' h => check_at l _ q w' LN.out h (by rw [List.length_set]; exact HB.out)
  have RC2 : Hid (∀ (q : Value) (w' : World), Rd w' q (bkL (hs.set 0 0)) → Calls Try.prog 15 #[PV l q] w' fun e w'' => e = .returned (.tuple #[.int .i64 (ev (chk l (hs.set 0 0))), .int .i64 (chk l (hs.set 0 0) : Int)]) ∧ Below w'.heap.size w' w'') := fun q w' h => rcheck_at l _ q w' LN.out h (by rw [List.length_set]; exact HB.out)
  have OW2 : Hid (∀ (q : Value) (w' : World), Rd w' q (bkL (hs.set 0 0)) → Calls Try.prog 14 #[PV l q] w' fun e w'' => ∃ g cap, e = .returned (.tuple #[PV l (.slice (some ⟨g, 0, none⟩) hs.length cap), .slice (some ⟨g, 0, none⟩) (hs.length + 3) cap]) ∧ RowV 3 w'.heap.size w'' (.slice (some ⟨g, 0, none⟩) (hs.length + 3) cap) (bkL (hs.set 0 0 ++ [-7, -8, -9])) ∧ Below w'.heap.size w' w'') := fun q w' h => by
    have := own_at l (hs.set 0 0) q w' LN.out h (by rw [List.length_set]; exact HB.out)
    rwa [List.length_set] at this
  generalize (chk l hs : Int) = x0 at *
  generalize ev (chk l hs) = x1 at *
  generalize (chk l (hs.set 0 0) : Int) = y0 at *
  generalize ev (chk l (hs.set 0 0)) = y1 at *
  have e1 : (x1 != x1) = false := by simp
  have e2 : (x0 != x0) = false := by simp
  have e3 : (y1 == y1) = true := by simp
  have e4 : (y0 == y0) = true := by simp
  clear PB hl hbig
  go_enter Try.func5, Try.ntmps5
  go_wp2_with (first
  | (refine step_load rfl 24 _ rfl w.heap.size 0 rfl (polL l (.slice ao hs.length cp)) _ (Blk.all BP.out) Try.underlying24 rfl (SZ.out _) ?_))
  refine (OW.out _ BB.out).mono ?_
  rintro e w1 ⟨g, cap, rfl, rv, b1⟩
  have B1 : Hid (Below w.heap.size w w1) := below_trans BB.out b1
  have P1 : Hid (Blk w.heap.size 24 (polL l (.slice ao hs.length cp)) w1) := BP.out.below b1
  have R1 : Hid (RowV 3 (w.heap.size + 1) w1 (.slice (some ⟨g, 0, none⟩) (hs.length + 3) cap) (bkL (hs ++ [-7, -8, -9]))) := rv.mono (by simp)
  have NZ : Hid (Blk w1.heap.size 24 polZ (w1.alloc (.cells #[.int .i64 0, .int .i64 0, .int .i64 0, .int .i64 0, .int .i64 0, .int .i64 0, .int .i64 0, .int .i64 0, .int .i64 0, .int .i64 0, .int .i64 0, .int .i64 0, .int .i64 0, .int .i64 0, .int .i64 0, .int .i64 0, .int .i64 0, .slice none 0 0] 24))) := Blk.new _ _ _
  clear rv b1 c17 OW BP BB
  obtain ⟨G, hG⟩ : ∃ G, w1.heap.size = G := ⟨_, rfl⟩
  have HG : Hid (w1.heap.size = G) := hG
  clear hG
  go_upto_region 4 with (first
  | ((with_reducible refine at_store ?_); refine step_store rfl 24 _ _ rfl w1.heap.size 0 24 polZ (polL l (.slice (some ⟨g, 0, none⟩) hs.length cap)) rfl rfl NZ.out (FT.out _) (SZ.out _) polL_one ?_; intro w2 nb2 g2))
  have S2 : Hid (LS w l hs (.slice ao hs.length cp) g cap w1.heap.size w2) := LS.start LN.out B1.out P1.out R1.out nb2 g2
  rw [HG.out] at S2
  try rw [HG.out]
  clear nb2 g2 NZ R1 P1 B1
  go_wp2_with (first
  | (refine step_load rfl 24 _ rfl w.heap.size 0 rfl (polL l (.slice ao hs.length cp)) _ (Blk.all S2.out.p) Try.underlying24 rfl (SZ.out _) ?_)
  | (refine step_load rfl 24 _ rfl G 0 rfl (polL l (.slice (some ⟨g, 0, none⟩) hs.length cap)) _ (Blk.all S2.out.q) Try.underlying24 rfl (SZ.out _) ?_)
  | (refine step_loadG rfl 24 _ rfl w.heap.size 0 rfl (polL l (.slice ao hs.length cp)) _ (Blk.all S2.out.p) Try.underlying24 rfl (SZ.out _) ?_)
  | (refine step_loadG rfl 24 _ rfl G 0 rfl (polL l (.slice (some ⟨g, 0, none⟩) hs.length cap)) _ (Blk.all S2.out.q) Try.underlying24 rfl (SZ.out _) ?_))
  refine (CK.out _ _ S2.out.rq).mono ?_
  rintro e w3 ⟨rfl, b3⟩
  have S3 : Hid (LS w l hs (.slice ao hs.length cp) g cap G w3) := S2.out.later b3
  have c3 := S3.out.p.cell 17 _ (polL_hol LN.out)
  clear b3
  go_wp2_with (first
  | (refine step_load rfl 24 _ rfl w.heap.size 0 rfl (polL l (.slice ao hs.length cp)) _ (Blk.all S3.out.p) Try.underlying24 rfl (SZ.out _) ?_)
  | (refine step_load rfl 24 _ rfl G 0 rfl (polL l (.slice (some ⟨g, 0, none⟩) hs.length cap)) _ (Blk.all S3.out.q) Try.underlying24 rfl (SZ.out _) ?_)
  | (refine step_loadG rfl 24 _ rfl w.heap.size 0 rfl (polL l (.slice ao hs.length cp)) _ (Blk.all S3.out.p) Try.underlying24 rfl (SZ.out _) ?_)
  | (refine step_loadG rfl 24 _ rfl G 0 rfl (polL l (.slice (some ⟨g, 0, none⟩) hs.length cap)) _ (Blk.all S3.out.q) Try.underlying24 rfl (SZ.out _) ?_))
  refine (RC.out _ S3.out.bb).mono ?_
  rintro e w4 ⟨rfl, b4⟩
  have S4 : Hid (LS w l hs (.slice ao hs.length cp) g cap G w4) := S3.out.later b4
  have c4 := S4.out.p.cell 17 _ (polL_hol LN.out)
  clear b4
  go_wp2_with (first
  | (refine step_load rfl 24 _ rfl w.heap.size 0 rfl (polL l (.slice ao hs.length cp)) _ (Blk.all S4.out.p) Try.underlying24 rfl (SZ.out _) ?_)
  | (refine step_load rfl 24 _ rfl G 0 rfl (polL l (.slice (some ⟨g, 0, none⟩) hs.length cap)) _ (Blk.all S4.out.q) Try.underlying24 rfl (SZ.out _) ?_)
  | (refine step_loadG rfl 24 _ rfl w.heap.size 0 rfl (polL l (.slice ao hs.length cp)) _ (Blk.all S4.out.p) Try.underlying24 rfl (SZ.out _) ?_)
  | (refine step_loadG rfl 24 _ rfl G 0 rfl (polL l (.slice (some ⟨g, 0, none⟩) hs.length cap)) _ (Blk.all S4.out.q) Try.underlying24 rfl (SZ.out _) ?_))
  refine (COP.out _ S4.out.bb).mono ?_
  rintro e w5 ⟨v5, rfl, rv5, b5⟩
  have S5 : Hid (LS w l hs (.slice ao hs.length cp) g cap G w5) := S4.out.later b5
  have RV5 : Hid (Rd w5 v5 (bkL (hs ++ [-7, -8, -9]))) := rv5.rd
  clear b5 rv5
  go_wp2_with (first
  | (refine step_load rfl 24 _ rfl w.heap.size 0 rfl (polL l (.slice ao hs.length cp)) _ (Blk.all S5.out.p) Try.underlying24 rfl (SZ.out _) ?_)
  | (refine step_load rfl 24 _ rfl G 0 rfl (polL l (.slice (some ⟨g, 0, none⟩) hs.length cap)) _ (Blk.all S5.out.q) Try.underlying24 rfl (SZ.out _) ?_)
  | (refine step_loadG rfl 24 _ rfl w.heap.size 0 rfl (polL l (.slice ao hs.length cp)) _ (Blk.all S5.out.p) Try.underlying24 rfl (SZ.out _) ?_)
  | (refine step_loadG rfl 24 _ rfl G 0 rfl (polL l (.slice (some ⟨g, 0, none⟩) hs.length cap)) _ (Blk.all S5.out.q) Try.underlying24 rfl (SZ.out _) ?_))
  refine (SAM.out _ _ _ S5.out.h.rd RV5.out).mono ?_
  rintro e w6 ⟨rfl, b6⟩
  have S6 : Hid (LS w l hs (.slice ao hs.length cp) g cap G w6) := S5.out.later b6
  have c6 := S6.out.p.cell 17 _ (polL_hol LN.out)
  clear b6
  by_cases h0 : hs.length = 0
  · have z0 : ((hs.length : Int) == 0) = true := by rw [h0]; rfl
    have H0 : Hid (hs.length = 0) := h0
    clear h0
    go_wp2_with (first
    | (refine step_load rfl 24 _ rfl w.heap.size 0 rfl (polL l (.slice ao hs.length cp)) _ (Blk.all S6.out.p) Try.underlying24 rfl (SZ.out _) ?_)
    | (refine step_load rfl 24 _ rfl G 0 rfl (polL l (.slice (some ⟨g, 0, none⟩) hs.length cap)) _ (Blk.all S6.out.q) Try.underlying24 rfl (SZ.out _) ?_)
    | (refine step_loadG rfl 24 _ rfl w.heap.size 0 rfl (polL l (.slice ao hs.length cp)) _ (Blk.all S6.out.p) Try.underlying24 rfl (SZ.out _) ?_)
    | (refine step_loadG rfl 24 _ rfl G 0 rfl (polL l (.slice (some ⟨g, 0, none⟩) hs.length cap)) _ (Blk.all S6.out.q) Try.underlying24 rfl (SZ.out _) ?_))
    go_ret
    exact ⟨rfl, S6.out.bb⟩
  have z0 : ((hs.length : Int) == 0) = false := beq_eq_false_iff_ne.2 (by omega)
  have H0 : Hid (0 < hs.length) := by show 0 < _; omega
  clear h0
  obtain ⟨⟨u0, d0⟩, f0⟩ := S6.out.cell0
  go_upto_region 11 with fail
  have S7 : Hid (LS w l (hs.set 0 0) (.slice ao hs.length cp) g cap G (w6.setCell ⟨g, 0, none⟩ (.int .i64 0))) := S6.out.put0 H0.out
  have HL2 : Hid ((hs.set 0 0).length = hs.length) := List.length_set
  clear d0 f0 c6
  generalize w6.setCell ⟨g, 0, none⟩ (.int .i64 0) = w7 at *
  have Q7 : Hid (Blk G 24 (polL l (.slice (some ⟨g, 0, none⟩) hs.length cap)) w7) := by have := S7.out.q; rwa [HL2.out] at this
  have RQ7 : Hid (Rd w7 (.slice (some ⟨g, 0, none⟩) hs.length cap) (bkL (hs.set 0 0))) := by have := S7.out.rq; rwa [HL2.out] at this
  go_wp2_with (first
  | (refine step_load rfl 24 _ rfl G 0 rfl (polL l (.slice (some ⟨g, 0, none⟩) hs.length cap)) _ (Blk.all Q7.out) Try.underlying24 rfl (SZ.out _) ?_))
  refine (CK2.out _ _ RQ7.out).mono ?_
  rintro e w8 ⟨rfl, b8⟩
  have B8 : Hid (Below w.heap.size w w8) := below_trans S7.out.bb b8
  have Q8 : Hid (Blk G 24 (polL l (.slice (some ⟨g, 0, none⟩) hs.length cap)) w8) := Q7.out.below b8
  have RQ8 : Hid (Rd w8 (.slice (some ⟨g, 0, none⟩) hs.length cap) (bkL (hs.set 0 0))) := RQ7.out.later b8
  clear b8
  go_wp2_with (first
  | (refine step_load rfl 24 _ rfl G 0 rfl (polL l (.slice (some ⟨g, 0, none⟩) hs.length cap)) _ (Blk.all Q8.out) Try.underlying24 rfl (SZ.out _) ?_))
  refine (OW2.out _ _ RQ8.out).mono ?_
  rintro e w9 ⟨g2, cap2, rfl, rv, b9⟩
  have B9 : Hid (Below w.heap.size w w9) := below_trans B8.out b9
  have NZ : Hid (Blk w9.heap.size 24 polZ (w9.alloc (.cells #[.int .i64 0, .int .i64 0, .int .i64 0, .int .i64 0, .int .i64 0, .int .i64 0, .int .i64 0, .int .i64 0, .int .i64 0, .int .i64 0, .int .i64 0, .int .i64 0, .int .i64 0, .int .i64 0, .int .i64 0, .int .i64 0, .int .i64 0, .slice none 0 0] 24))) := Blk.new _ _ _
  have R9 : Hid (Rd w9 (.slice (some ⟨g2, 0, none⟩) hs.length cap2) (bkL (hs.set 0 0))) := by have := rd_front (xs := hs.set 0 0) (ys := [-7, -8, -9]) (g := g2) (cap := cap2) (by rw [List.length_set]; exact rv.rd); rwa [List.length_set] at this
  clear b9 rv
  go_upto_region 13 with (first
  | ((with_reducible refine at_store ?_); refine step_store rfl 24 _ _ rfl w9.heap.size 0 24 polZ (polL l (.slice (some ⟨g2, 0, none⟩) hs.length cap2)) rfl rfl NZ.out (FT.out _) (SZ.out _) polL_one ?_; intro w10 nb10 g10))
  have Q10 : Hid (Blk w9.heap.size 24 (polL l (.slice (some ⟨g2, 0, none⟩) hs.length cap2)) w10) := blk_put (by rw [polL_len LN.out]; exact Nat.le_refl 18) nb10
  have D10 : Hid (w9.grownBy w10 (some w9.heap.size)) := ⟨g10.os, g10.tape, g10.output, Nat.le_trans (by simp) g10.size, fun k hk hn => (g10.block k (by simp; omega) hn).trans ((below_alloc w9 _).block k hk)⟩
  have B10 : Hid (Below w.heap.size w w10) := below_row B9.out D10.out B9.out.size
  have RQ10 : Hid (Rd w10 (.slice (some ⟨g2, 0, none⟩) hs.length cap2) (bkL (hs.set 0 0))) := R9.out.later (below_row (Below.refl _ _) D10.out (Nat.le_refl _))
  clear nb10 g10 NZ R9
  go_wp2_with (first
  | (refine step_load rfl 24 _ rfl w9.heap.size 0 rfl (polL l (.slice (some ⟨g2, 0, none⟩) hs.length cap2)) _ (Blk.all Q10.out) Try.underlying24 rfl (SZ.out _) ?_))
  refine (RC2.out _ _ RQ10.out).mono ?_
  rintro e w11 ⟨rfl, b11⟩
  have B11 : Hid (Below w.heap.size w w11) := below_trans B10.out b11
  clear b11
  go_wp2_with fail
  go_ret
  exact ⟨rfl, B11.out⟩
end Go.Proofs.Ytcjmjbhbdojeiaa
