/-
  Ours: the reference's taken, Step (gen_corf.py).
-/
import Derived.Test.YtmbbigkpeefjjabDoorCoRf4
import Derived.Test.YtmbbigkpeefjjabDoorPolRf2
import Derived.Test.YtmbbigkpeefjjabDoorCoSr
namespace Go.Proofs.YtmbbigkpeefjjabDoor
open Go.RowKit LedM PolM CoM

set_option linter.unusedSimpArgs false in
set_option maxRecDepth 20000 in
set_option maxHeartbeats 8000000 in
theorem rtak_at (l : List Int) (s : Value) (c : Cs) (ev : Ev) (hl : l.length = 17) (hd : ev.k = 1 → 0 ≤ ev.d) (hgr : 0 ≤ l.getD 1 0) (w : World) : Calls Tryd.prog 28 #[PV l s, csV c, evV ev] w (RunAns (takR l ev c) w) := by
  show Calls _ _ #[.agg (polL l s).toArray, .agg (csL c).toArray, .agg (evL ev).toArray] _ _
  obtain ⟨i0, hi0, hz0, hz1, hz2⟩ := info_partsC infoInt
  have SZ : Hid ((Tryd.prog.info? 24).map (·.size) = some (polL l s).length) := by show _ = _; rw [polL_len hl]; exact sizeP
  have BK : Hid (∀ c w', Calls Tryd.prog 77 #[csV c] w' fun e w'' => e = .returned (csV (endP c)) ∧ Below w'.heap.size w' w'') := rback_at
  have CU : Hid (∀ c w', Calls Tryd.prog 44 #[csV c] w' fun e w'' => e = .returned (csV (curd c)) ∧ Below w'.heap.size w' w'') := rcure_at
  have OP : Hid (∀ c w', Calls Tryd.prog 6 #[csV c] w' fun e w'' => e = .returned (.bool (opn c)) ∧ Below w'.heap.size w' w'') := ropen_at
  have ED : Hid (∀ st c w', Calls Tryd.prog 43 #[csV c, .int .i64 st] w' fun e w'' => e = .returned (csV (endC st c)) ∧ Below w'.heap.size w' w'') := rend_at
  have AG0 : Hid (ev.k = 1 → ∀ w', Calls Tryd.prog 40 #[PV l s, csV c, evV ev] w' (RunAns (ageM l ev (c, [])) w')) := fun h w' => rage_at l s c ev hl (hd h) hgr w'
  have PA : Hid (∀ w', Calls Tryd.prog 41 #[csV c, evV ev] w' (RunAns (paidM ev (c, [])) w')) := rpaid_at c ev
  have RE : Hid (∀ w', Calls Tryd.prog 42 #[csV c, evV ev] w' fun e w'' => e = .returned (csV (retM ev (c, [])).1) ∧ Below w'.heap.size w' w'') := rret_at c ev
  clear hl hd hgr
  by_cases h1q : ev.k = 1
  · have hk := h1q
    clear h1q
    have HE : Hid (takR l ev c = ageM l ev (c, [])) := by show _ = _; simp [takR, hk]
    have AG := AG0.out hk
    have k1 : (ev.k == 1) = true := by simp [hk]
    clear hk AG0
    generalize ageM l ev (c, []) = xx at *
    have S1 : Hid (KD w [(w.heap.size, 24, polL l s), (w.heap.size + 1, 27, csL c), (w.heap.size + 1 + 1, 37, evL ev), (w.heap.size + 1 + 1 + 1, 27, csL ⟨0, false, 0, 0, 0, 0, 0, 0, 0, 0, 0, 0, 0, 0, 0⟩)] ((((w.alloc (.cells (polL l s).toArray 24)).alloc (.cells (csL c).toArray 27)).alloc (.cells (evL ev).toArray 37)).alloc (.cells #[.int .i64 0, .bool false, .int .i64 0, .int .i64 0, .int .i64 0, .int .i64 0, .int .i64 0, .int .i64 0, .int .i64 0, .int .i64 0, .int .i64 0, .int .i64 0, .int .i64 0, .int .i64 0, .int .i64 0] 27))) := KD.four w _ _ _ _ _ _ _ _
    go_enter Tryd.func28, Tryd.ntmps28
    go_upto_region 1 with fail
    generalize ((((w.alloc (.cells (polL l s).toArray 24)).alloc (.cells (csL c).toArray 27)).alloc (.cells (evL ev).toArray 37)).alloc (.cells #[.int .i64 0, .bool false, .int .i64 0, .int .i64 0, .int .i64 0, .int .i64 0, .int .i64 0, .int .i64 0, .int .i64 0, .int .i64 0, .int .i64 0, .int .i64 0, .int .i64 0, .int .i64 0, .int .i64 0] 27)) = w1 at *
    have e0 : w1.cell? ⟨w.heap.size + 1 + 1, 0, none⟩ = some (.int .i64 ev.k) := S1.out.cell 2 0 rfl _ rfl
    go_wp2_with (first
    | ((with_reducible refine at_loadT 24 ?_); refine step_load rfl 24 _ rfl (w.heap.size) 0 rfl (polL l s) _ (Blk.all (S1.out.at 0 rfl)) Tryd.underlying24 rfl SZ.out ?_)
    | ((with_reducible refine at_loadT 27 ?_); refine step_load rfl 27 _ rfl (w.heap.size + 1) 0 rfl (csL c) _ (Blk.all (S1.out.at 1 rfl)) Tryd.underlying27 rfl (sizeCsL _) ?_)
    | ((with_reducible refine at_loadT 37 ?_); refine step_load rfl 37 _ rfl (w.heap.size + 1 + 1) 0 rfl (evL ev) _ (Blk.all (S1.out.at 2 rfl)) Tryd.underlying37 rfl (sizeEvL _) ?_))
    refine (AG _).mono ?_
    rintro e w2 ⟨ra, rn, rc, rfl, rrow, bX⟩
    have S2 : Hid (KD w [(w.heap.size, 24, polL l s), (w.heap.size + 1, 27, csL c), (w.heap.size + 1 + 1, 37, evL ev), (w.heap.size + 1 + 1 + 1, 27, csL ⟨0, false, 0, 0, 0, 0, 0, 0, 0, 0, 0, 0, 0, 0, 0⟩)] w2) := S1.out.call bX
    have RR : Hid (RowV 3 w.heap.size w2 (.slice ra rn rc) (bkL xx.2)) := rrow.mono S1.out.bb.size
    clear bX S1 rrow e0
    go_wp2_with ((with_reducible refine at_store ?_); refine step_store rfl 27 _ _ rfl (w.heap.size + 1 + 1 + 1) 0 27 (csL ⟨0, false, 0, 0, 0, 0, 0, 0, 0, 0, 0, 0, 0, 0, 0⟩) (csL xx.1) rfl rfl (S2.out.at 3 rfl) (Nat.le_refl 15) (sizeCsL _) (csL_one _) ?_; intro wz nz gz)
    refine ret_blk_tmp rfl rfl (w.heap.size + 1 + 1 + 1) 27 (csL xx.1) _ rfl nz Tryd.underlying27 rfl (sizeCsL _) ?_
    rw [HE.out]
    exact ⟨_, _, _, rfl, rowV_blk RR.out (S2.out.at 3 rfl) gz int_ne_case, (S2.out.store 3 rfl nz gz).bb⟩
  · by_cases h2q : ev.k = 2
    · have hk := h2q
      clear h2q
      have HE : Hid (takR l ev c = paidM ev (c, [])) := by show _ = _; simp [takR, hk]
      have k1 : (ev.k == 1) = false := by simp [hk]
      have k2 : (ev.k == 2) = true := by simp [hk]
      clear hk
      generalize paidM ev (c, []) = xx at *
      have S1 : Hid (KD w [(w.heap.size, 24, polL l s), (w.heap.size + 1, 27, csL c), (w.heap.size + 1 + 1, 37, evL ev), (w.heap.size + 1 + 1 + 1, 27, csL ⟨0, false, 0, 0, 0, 0, 0, 0, 0, 0, 0, 0, 0, 0, 0⟩)] ((((w.alloc (.cells (polL l s).toArray 24)).alloc (.cells (csL c).toArray 27)).alloc (.cells (evL ev).toArray 37)).alloc (.cells #[.int .i64 0, .bool false, .int .i64 0, .int .i64 0, .int .i64 0, .int .i64 0, .int .i64 0, .int .i64 0, .int .i64 0, .int .i64 0, .int .i64 0, .int .i64 0, .int .i64 0, .int .i64 0, .int .i64 0] 27))) := KD.four w _ _ _ _ _ _ _ _
      go_enter Tryd.func28, Tryd.ntmps28
      go_upto_region 1 with fail
      generalize ((((w.alloc (.cells (polL l s).toArray 24)).alloc (.cells (csL c).toArray 27)).alloc (.cells (evL ev).toArray 37)).alloc (.cells #[.int .i64 0, .bool false, .int .i64 0, .int .i64 0, .int .i64 0, .int .i64 0, .int .i64 0, .int .i64 0, .int .i64 0, .int .i64 0, .int .i64 0, .int .i64 0, .int .i64 0, .int .i64 0, .int .i64 0] 27)) = w1 at *
      have e0 : w1.cell? ⟨w.heap.size + 1 + 1, 0, none⟩ = some (.int .i64 ev.k) := S1.out.cell 2 0 rfl _ rfl
      go_wp2_with (first
      | ((with_reducible refine at_loadT 24 ?_); refine step_load rfl 24 _ rfl (w.heap.size) 0 rfl (polL l s) _ (Blk.all (S1.out.at 0 rfl)) Tryd.underlying24 rfl SZ.out ?_)
      | ((with_reducible refine at_loadT 27 ?_); refine step_load rfl 27 _ rfl (w.heap.size + 1) 0 rfl (csL c) _ (Blk.all (S1.out.at 1 rfl)) Tryd.underlying27 rfl (sizeCsL _) ?_)
      | ((with_reducible refine at_loadT 37 ?_); refine step_load rfl 37 _ rfl (w.heap.size + 1 + 1) 0 rfl (evL ev) _ (Blk.all (S1.out.at 2 rfl)) Tryd.underlying37 rfl (sizeEvL _) ?_))
      refine (PA.out _).mono ?_
      rintro e w2 ⟨ra, rn, rc, rfl, rrow, bX⟩
      have S2 : Hid (KD w [(w.heap.size, 24, polL l s), (w.heap.size + 1, 27, csL c), (w.heap.size + 1 + 1, 37, evL ev), (w.heap.size + 1 + 1 + 1, 27, csL ⟨0, false, 0, 0, 0, 0, 0, 0, 0, 0, 0, 0, 0, 0, 0⟩)] w2) := S1.out.call bX
      have RR : Hid (RowV 3 w.heap.size w2 (.slice ra rn rc) (bkL xx.2)) := rrow.mono S1.out.bb.size
      clear bX S1 rrow e0
      go_wp2_with ((with_reducible refine at_store ?_); refine step_store rfl 27 _ _ rfl (w.heap.size + 1 + 1 + 1) 0 27 (csL ⟨0, false, 0, 0, 0, 0, 0, 0, 0, 0, 0, 0, 0, 0, 0⟩) (csL xx.1) rfl rfl (S2.out.at 3 rfl) (Nat.le_refl 15) (sizeCsL _) (csL_one _) ?_; intro wz nz gz)
      refine ret_blk_tmp rfl rfl (w.heap.size + 1 + 1 + 1) 27 (csL xx.1) _ rfl nz Tryd.underlying27 rfl (sizeCsL _) ?_
      rw [HE.out]
      exact ⟨_, _, _, rfl, rowV_blk RR.out (S2.out.at 3 rfl) gz int_ne_case, (S2.out.store 3 rfl nz gz).bb⟩
    · by_cases h3q : ev.k = 3
      · have hk := h3q
        clear h3q
        have HE : Hid (takR l ev c = ((retM ev (c, [])).1, [])) := by show _ = _; simp [takR, hk]
        have k1 : (ev.k == 1) = false := by simp [hk]
        have k2 : (ev.k == 2) = false := by simp [hk]
        have k3 : (ev.k == 3) = true := by simp [hk]
        clear hk
        generalize (retM ev (c, [])).1 = xx at *
        have S1 : Hid (KD w [(w.heap.size, 24, polL l s), (w.heap.size + 1, 27, csL c), (w.heap.size + 1 + 1, 37, evL ev), (w.heap.size + 1 + 1 + 1, 27, csL ⟨0, false, 0, 0, 0, 0, 0, 0, 0, 0, 0, 0, 0, 0, 0⟩)] ((((w.alloc (.cells (polL l s).toArray 24)).alloc (.cells (csL c).toArray 27)).alloc (.cells (evL ev).toArray 37)).alloc (.cells #[.int .i64 0, .bool false, .int .i64 0, .int .i64 0, .int .i64 0, .int .i64 0, .int .i64 0, .int .i64 0, .int .i64 0, .int .i64 0, .int .i64 0, .int .i64 0, .int .i64 0, .int .i64 0, .int .i64 0] 27))) := KD.four w _ _ _ _ _ _ _ _
        go_enter Tryd.func28, Tryd.ntmps28
        go_upto_region 1 with fail
        generalize ((((w.alloc (.cells (polL l s).toArray 24)).alloc (.cells (csL c).toArray 27)).alloc (.cells (evL ev).toArray 37)).alloc (.cells #[.int .i64 0, .bool false, .int .i64 0, .int .i64 0, .int .i64 0, .int .i64 0, .int .i64 0, .int .i64 0, .int .i64 0, .int .i64 0, .int .i64 0, .int .i64 0, .int .i64 0, .int .i64 0, .int .i64 0] 27)) = w1 at *
        have e0 : w1.cell? ⟨w.heap.size + 1 + 1, 0, none⟩ = some (.int .i64 ev.k) := S1.out.cell 2 0 rfl _ rfl
        go_wp2_with (first
        | ((with_reducible refine at_loadT 24 ?_); refine step_load rfl 24 _ rfl (w.heap.size) 0 rfl (polL l s) _ (Blk.all (S1.out.at 0 rfl)) Tryd.underlying24 rfl SZ.out ?_)
        | ((with_reducible refine at_loadT 27 ?_); refine step_load rfl 27 _ rfl (w.heap.size + 1) 0 rfl (csL c) _ (Blk.all (S1.out.at 1 rfl)) Tryd.underlying27 rfl (sizeCsL _) ?_)
        | ((with_reducible refine at_loadT 37 ?_); refine step_load rfl 37 _ rfl (w.heap.size + 1 + 1) 0 rfl (evL ev) _ (Blk.all (S1.out.at 2 rfl)) Tryd.underlying37 rfl (sizeEvL _) ?_))
        refine (RE.out _).mono ?_
        rintro e w2 ⟨rfl, bX⟩
        have S2 : Hid (KD w [(w.heap.size, 24, polL l s), (w.heap.size + 1, 27, csL c), (w.heap.size + 1 + 1, 37, evL ev), (w.heap.size + 1 + 1 + 1, 27, csL ⟨0, false, 0, 0, 0, 0, 0, 0, 0, 0, 0, 0, 0, 0, 0⟩)] w2) := S1.out.call bX
        clear bX S1 e0
        go_wp2_with ((with_reducible refine at_store ?_); refine step_store rfl 27 _ _ rfl (w.heap.size + 1 + 1 + 1) 0 27 (csL ⟨0, false, 0, 0, 0, 0, 0, 0, 0, 0, 0, 0, 0, 0, 0⟩) (csL xx) rfl rfl (S2.out.at 3 rfl) (Nat.le_refl 15) (sizeCsL _) (csL_one _) ?_; intro wz nz gz)
        refine ret_blk_tmp rfl rfl (w.heap.size + 1 + 1 + 1) 27 (csL xx) _ rfl nz Tryd.underlying27 rfl (sizeCsL _) ?_
        rw [HE.out]
        exact ⟨_, _, _, rfl, RowV.nil _ _ _, (S2.out.store 3 rfl nz gz).bb⟩
      · by_cases h4q : ev.k = 4
        · have hk := h4q
          clear h4q
          have HE : Hid (takR l ev c = ((proM ev (c, [])).1, [])) := by show _ = _; simp [takR, hk, proM]
          have k1 : (ev.k == 1) = false := by simp [hk]
          have k2 : (ev.k == 2) = false := by simp [hk]
          have k3 : (ev.k == 3) = false := by simp [hk]
          have k4 : (ev.k == 4) = true := by simp [hk]
          clear hk
          have S1 : Hid (KD w [(w.heap.size, 24, polL l s), (w.heap.size + 1, 27, csL c), (w.heap.size + 1 + 1, 37, evL ev), (w.heap.size + 1 + 1 + 1, 27, csL ⟨0, false, 0, 0, 0, 0, 0, 0, 0, 0, 0, 0, 0, 0, 0⟩)] ((((w.alloc (.cells (polL l s).toArray 24)).alloc (.cells (csL c).toArray 27)).alloc (.cells (evL ev).toArray 37)).alloc (.cells #[.int .i64 0, .bool false, .int .i64 0, .int .i64 0, .int .i64 0, .int .i64 0, .int .i64 0, .int .i64 0, .int .i64 0, .int .i64 0, .int .i64 0, .int .i64 0, .int .i64 0, .int .i64 0, .int .i64 0] 27))) := KD.four w _ _ _ _ _ _ _ _
          go_enter Tryd.func28, Tryd.ntmps28
          go_upto_region 1 with fail
          generalize ((((w.alloc (.cells (polL l s).toArray 24)).alloc (.cells (csL c).toArray 27)).alloc (.cells (evL ev).toArray 37)).alloc (.cells #[.int .i64 0, .bool false, .int .i64 0, .int .i64 0, .int .i64 0, .int .i64 0, .int .i64 0, .int .i64 0, .int .i64 0, .int .i64 0, .int .i64 0, .int .i64 0, .int .i64 0, .int .i64 0, .int .i64 0] 27)) = w1 at *
          have c0 : w1.cell? ⟨w.heap.size + 1, 0, none⟩ = some (.int .i64 c.st) := S1.out.cell 1 0 rfl _ rfl
          have f0 := S1.out.fz 1 0 rfl
          have c4 : w1.cell? ⟨w.heap.size + 1, 4, none⟩ = some (.int .i64 c.dl) := S1.out.cell 1 4 rfl _ rfl
          have f4 := S1.out.fz 1 4 rfl
          have c5 : w1.cell? ⟨w.heap.size + 1, 5, none⟩ = some (.int .i64 c.pr) := S1.out.cell 1 5 rfl _ rfl
          have f5 := S1.out.fz 1 5 rfl
          have c6 : w1.cell? ⟨w.heap.size + 1, 6, none⟩ = some (.int .i64 c.pd) := S1.out.cell 1 6 rfl _ rfl
          have f6 := S1.out.fz 1 6 rfl
          have c7 : w1.cell? ⟨w.heap.size + 1, 7, none⟩ = some (.int .i64 c.pa) := S1.out.cell 1 7 rfl _ rfl
          have f7 := S1.out.fz 1 7 rfl
          have c8 : w1.cell? ⟨w.heap.size + 1, 8, none⟩ = some (.int .i64 c.pg) := S1.out.cell 1 8 rfl _ rfl
          have f8 := S1.out.fz 1 8 rfl
          have e0 : w1.cell? ⟨w.heap.size + 1 + 1, 0, none⟩ = some (.int .i64 ev.k) := S1.out.cell 2 0 rfl _ rfl
          have e1 : w1.cell? ⟨w.heap.size + 1 + 1, 1, none⟩ = some (.int .i64 ev.t) := S1.out.cell 2 1 rfl _ rfl
          have e2 : w1.cell? ⟨w.heap.size + 1 + 1, 2, none⟩ = some (.int .i64 ev.d) := S1.out.cell 2 2 rfl _ rfl
          have e3 : w1.cell? ⟨w.heap.size + 1 + 1, 3, none⟩ = some (.int .i64 ev.a) := S1.out.cell 2 3 rfl _ rfl
          have lt := S1.out.lt 1 rfl
          have q1 : KD w [(w.heap.size, 24, polL l s), (w.heap.size + 1, 27, csL { c with pr := wrap64 (c.pr + 1) }), (w.heap.size + 1 + 1, 37, evL ev), (w.heap.size + 1 + 1 + 1, 27, csL ⟨0, false, 0, 0, 0, 0, 0, 0, 0, 0, 0, 0, 0, 0, 0⟩)] (w1.setCell ⟨w.heap.size + 1, 5, none⟩ (.int .i64 (wrap64 (c.pr + 1)))) := S1.out.set 1 5 rfl (.int .i64 (wrap64 (c.pr + 1)))
          have q2 : KD w [(w.heap.size, 24, polL l s), (w.heap.size + 1, 27, csL { c with pr := wrap64 (c.pr + 1), pd := wrap64 (ev.t + ev.d) }), (w.heap.size + 1 + 1, 37, evL ev), (w.heap.size + 1 + 1 + 1, 27, csL ⟨0, false, 0, 0, 0, 0, 0, 0, 0, 0, 0, 0, 0, 0, 0⟩)] ((w1.setCell ⟨w.heap.size + 1, 5, none⟩ (.int .i64 (wrap64 (c.pr + 1)))).setCell ⟨w.heap.size + 1, 6, none⟩ (.int .i64 (wrap64 (ev.t + ev.d)))) := q1.set 1 6 rfl (.int .i64 (wrap64 (ev.t + ev.d)))
          have q3 : KD w [(w.heap.size, 24, polL l s), (w.heap.size + 1, 27, csL { c with pr := wrap64 (c.pr + 1), pd := wrap64 (ev.t + ev.d), pa := ev.a }), (w.heap.size + 1 + 1, 37, evL ev), (w.heap.size + 1 + 1 + 1, 27, csL ⟨0, false, 0, 0, 0, 0, 0, 0, 0, 0, 0, 0, 0, 0, 0⟩)] (((w1.setCell ⟨w.heap.size + 1, 5, none⟩ (.int .i64 (wrap64 (c.pr + 1)))).setCell ⟨w.heap.size + 1, 6, none⟩ (.int .i64 (wrap64 (ev.t + ev.d)))).setCell ⟨w.heap.size + 1, 7, none⟩ (.int .i64 ev.a)) := q2.set 1 7 rfl (.int .i64 ev.a)
          have q4 : KD w [(w.heap.size, 24, polL l s), (w.heap.size + 1, 27, csL { c with pr := wrap64 (c.pr + 1), pd := wrap64 (ev.t + ev.d), pa := ev.a, pg := 0 }), (w.heap.size + 1 + 1, 37, evL ev), (w.heap.size + 1 + 1 + 1, 27, csL ⟨0, false, 0, 0, 0, 0, 0, 0, 0, 0, 0, 0, 0, 0, 0⟩)] ((((w1.setCell ⟨w.heap.size + 1, 5, none⟩ (.int .i64 (wrap64 (c.pr + 1)))).setCell ⟨w.heap.size + 1, 6, none⟩ (.int .i64 (wrap64 (ev.t + ev.d)))).setCell ⟨w.heap.size + 1, 7, none⟩ (.int .i64 ev.a)).setCell ⟨w.heap.size + 1, 8, none⟩ (.int .i64 0)) := q3.set 1 8 rfl (.int .i64 0)
          have q5 : KD w [(w.heap.size, 24, polL l s), (w.heap.size + 1, 27, csL { c with pr := wrap64 (c.pr + 1), pd := wrap64 (ev.t + ev.d), pa := ev.a, pg := 0, dl := wrap64 (c.dl + ev.d) }), (w.heap.size + 1 + 1, 37, evL ev), (w.heap.size + 1 + 1 + 1, 27, csL ⟨0, false, 0, 0, 0, 0, 0, 0, 0, 0, 0, 0, 0, 0, 0⟩)] (((((w1.setCell ⟨w.heap.size + 1, 5, none⟩ (.int .i64 (wrap64 (c.pr + 1)))).setCell ⟨w.heap.size + 1, 6, none⟩ (.int .i64 (wrap64 (ev.t + ev.d)))).setCell ⟨w.heap.size + 1, 7, none⟩ (.int .i64 ev.a)).setCell ⟨w.heap.size + 1, 8, none⟩ (.int .i64 0)).setCell ⟨w.heap.size + 1, 4, none⟩ (.int .i64 (wrap64 (c.dl + ev.d)))) := q4.set 1 4 rfl (.int .i64 (wrap64 (c.dl + ev.d)))
          have q6 : KD w [(w.heap.size, 24, polL l s), (w.heap.size + 1, 27, csL (proM ev (c, [])).1), (w.heap.size + 1 + 1, 37, evL ev), (w.heap.size + 1 + 1 + 1, 27, csL ⟨0, false, 0, 0, 0, 0, 0, 0, 0, 0, 0, 0, 0, 0, 0⟩)] ((((((w1.setCell ⟨w.heap.size + 1, 5, none⟩ (.int .i64 (wrap64 (c.pr + 1)))).setCell ⟨w.heap.size + 1, 6, none⟩ (.int .i64 (wrap64 (ev.t + ev.d)))).setCell ⟨w.heap.size + 1, 7, none⟩ (.int .i64 ev.a)).setCell ⟨w.heap.size + 1, 8, none⟩ (.int .i64 0)).setCell ⟨w.heap.size + 1, 4, none⟩ (.int .i64 (wrap64 (c.dl + ev.d)))).setCell ⟨w.heap.size + 1, 0, none⟩ (.int .i64 4)) := q5.set 1 0 rfl (.int .i64 4)
          have S2 : Hid (KD w [(w.heap.size, 24, polL l s), (w.heap.size + 1, 27, csL (proM ev (c, [])).1), (w.heap.size + 1 + 1, 37, evL ev), (w.heap.size + 1 + 1 + 1, 27, csL ⟨0, false, 0, 0, 0, 0, 0, 0, 0, 0, 0, 0, 0, 0, 0⟩)] ((((((w1.setCell ⟨w.heap.size + 1, 5, none⟩ (.int .i64 (wrap64 (c.pr + 1)))).setCell ⟨w.heap.size + 1, 6, none⟩ (.int .i64 (wrap64 (ev.t + ev.d)))).setCell ⟨w.heap.size + 1, 7, none⟩ (.int .i64 ev.a)).setCell ⟨w.heap.size + 1, 8, none⟩ (.int .i64 0)).setCell ⟨w.heap.size + 1, 4, none⟩ (.int .i64 (wrap64 (c.dl + ev.d)))).setCell ⟨w.heap.size + 1, 0, none⟩ (.int .i64 4))) := q6
          clear q1 q2 q3 q4 q5 q6
          clear S1
          go_upto_region 15 with fail
          generalize ((((((w1.setCell ⟨w.heap.size + 1, 5, none⟩ (.int .i64 (wrap64 (c.pr + 1)))).setCell ⟨w.heap.size + 1, 6, none⟩ (.int .i64 (wrap64 (ev.t + ev.d)))).setCell ⟨w.heap.size + 1, 7, none⟩ (.int .i64 ev.a)).setCell ⟨w.heap.size + 1, 8, none⟩ (.int .i64 0)).setCell ⟨w.heap.size + 1, 4, none⟩ (.int .i64 (wrap64 (c.dl + ev.d)))).setCell ⟨w.heap.size + 1, 0, none⟩ (.int .i64 4)) = w2 at *
          clear c0 c4 c5 c6 c7 c8 f0 f4 f5 f6 f7 f8 e0 e1 e2 e3 lt
          generalize (proM ev (c, [])).1 = xx at *
          go_wp2_with (first
          | ((with_reducible refine at_loadT 27 ?_); refine step_load rfl 27 _ rfl (w.heap.size + 1) 0 rfl (csL xx) _ (Blk.all (S2.out.at 1 rfl)) Tryd.underlying27 rfl (sizeCsL _) ?_)
          | ((with_reducible refine at_store ?_); refine step_store rfl 27 _ _ rfl (w.heap.size + 1 + 1 + 1) 0 27 (csL ⟨0, false, 0, 0, 0, 0, 0, 0, 0, 0, 0, 0, 0, 0, 0⟩) (csL xx) rfl rfl (S2.out.at 3 rfl) (Nat.le_refl 15) (sizeCsL _) (csL_one _) ?_; intro wz nz gz))
          refine ret_blk_tmp rfl rfl (w.heap.size + 1 + 1 + 1) 27 (csL xx) _ rfl nz Tryd.underlying27 rfl (sizeCsL _) ?_
          rw [HE.out]
          exact ⟨_, _, _, rfl, RowV.nil _ _ _, (S2.out.store 3 rfl nz gz).bb⟩
        · by_cases h5q : ev.k = 5
          · have hk := h5q
            clear h5q
            have HE : Hid (takR l ev c = (endC 7 { c with re := wrap64 (c.re + 1) }, [7])) := by show _ = _; simp [takR, hk, resM]
            have k1 : (ev.k == 1) = false := by simp [hk]
            have k2 : (ev.k == 2) = false := by simp [hk]
            have k3 : (ev.k == 3) = false := by simp [hk]
            have k4 : (ev.k == 4) = false := by simp [hk]
            have k5 : (ev.k == 5) = true := by simp [hk]
            clear hk
            have S1 : Hid (KD w [(w.heap.size, 24, polL l s), (w.heap.size + 1, 27, csL c), (w.heap.size + 1 + 1, 37, evL ev), (w.heap.size + 1 + 1 + 1, 27, csL ⟨0, false, 0, 0, 0, 0, 0, 0, 0, 0, 0, 0, 0, 0, 0⟩)] ((((w.alloc (.cells (polL l s).toArray 24)).alloc (.cells (csL c).toArray 27)).alloc (.cells (evL ev).toArray 37)).alloc (.cells #[.int .i64 0, .bool false, .int .i64 0, .int .i64 0, .int .i64 0, .int .i64 0, .int .i64 0, .int .i64 0, .int .i64 0, .int .i64 0, .int .i64 0, .int .i64 0, .int .i64 0, .int .i64 0, .int .i64 0] 27))) := KD.four w _ _ _ _ _ _ _ _
            go_enter Tryd.func28, Tryd.ntmps28
            go_upto_region 1 with fail
            generalize ((((w.alloc (.cells (polL l s).toArray 24)).alloc (.cells (csL c).toArray 27)).alloc (.cells (evL ev).toArray 37)).alloc (.cells #[.int .i64 0, .bool false, .int .i64 0, .int .i64 0, .int .i64 0, .int .i64 0, .int .i64 0, .int .i64 0, .int .i64 0, .int .i64 0, .int .i64 0, .int .i64 0, .int .i64 0, .int .i64 0, .int .i64 0] 27)) = w1 at *
            have c12 : w1.cell? ⟨w.heap.size + 1, 12, none⟩ = some (.int .i64 c.re) := S1.out.cell 1 12 rfl _ rfl
            have f12 := S1.out.fz 1 12 rfl
            have e0 : w1.cell? ⟨w.heap.size + 1 + 1, 0, none⟩ = some (.int .i64 ev.k) := S1.out.cell 2 0 rfl _ rfl
            have lt := S1.out.lt 1 rfl
            have q1 : KD w [(w.heap.size, 24, polL l s), (w.heap.size + 1, 27, csL { c with re := wrap64 (c.re + 1) }), (w.heap.size + 1 + 1, 37, evL ev), (w.heap.size + 1 + 1 + 1, 27, csL ⟨0, false, 0, 0, 0, 0, 0, 0, 0, 0, 0, 0, 0, 0, 0⟩)] (w1.setCell ⟨w.heap.size + 1, 12, none⟩ (.int .i64 (wrap64 (c.re + 1)))) := S1.out.set 1 12 rfl (.int .i64 (wrap64 (c.re + 1)))
            have S2 : Hid (KD w [(w.heap.size, 24, polL l s), (w.heap.size + 1, 27, csL { c with re := wrap64 (c.re + 1) }), (w.heap.size + 1 + 1, 37, evL ev), (w.heap.size + 1 + 1 + 1, 27, csL ⟨0, false, 0, 0, 0, 0, 0, 0, 0, 0, 0, 0, 0, 0, 0⟩)] (w1.setCell ⟨w.heap.size + 1, 12, none⟩ (.int .i64 (wrap64 (c.re + 1))))) := q1
            clear q1
            clear S1
            go_upto_region 18 with fail
            generalize (w1.setCell ⟨w.heap.size + 1, 12, none⟩ (.int .i64 (wrap64 (c.re + 1)))) = w2 at *
            clear c12 f12 e0 lt
            go_wp2_with ((with_reducible refine at_loadT 27 ?_); refine step_load rfl 27 _ rfl (w.heap.size + 1) 0 rfl (csL { c with re := wrap64 (c.re + 1) }) _ (Blk.all (S2.out.at 1 rfl)) Tryd.underlying27 rfl (sizeCsL _) ?_)
            refine (ED.out _ _ _).mono ?_
            rintro e w3 ⟨rfl, bX⟩
            have S3 : Hid (KD w [(w.heap.size, 24, polL l s), (w.heap.size + 1, 27, csL { c with re := wrap64 (c.re + 1) }), (w.heap.size + 1 + 1, 37, evL ev), (w.heap.size + 1 + 1 + 1, 27, csL ⟨0, false, 0, 0, 0, 0, 0, 0, 0, 0, 0, 0, 0, 0, 0⟩)] w3) := S2.out.call bX
            clear bX S2
            have S4 : Hid (KR w [(w.heap.size, 24, polL l s), (w.heap.size + 1, 27, csL { c with re := wrap64 (c.re + 1) }), (w.heap.size + 1 + 1, 37, evL ev), (w.heap.size + 1 + 1 + 1, 27, csL ⟨0, false, 0, 0, 0, 0, 0, 0, 0, 0, 0, 0, 0, 0, 0⟩)] (.slice (some ⟨w3.heap.size, 0, none⟩) 1 1) [7] (w3.alloc (.cells #[.int .i64 7] 3))) := ⟨S3.out.call (below_alloc _ _), row_one _ _ _ S3.out.bb.size⟩
            go_wp2_with ((with_reducible refine at_store ?_); refine step_store rfl 27 _ _ rfl (w.heap.size + 1 + 1 + 1) 0 27 (csL ⟨0, false, 0, 0, 0, 0, 0, 0, 0, 0, 0, 0, 0, 0, 0⟩) (csL (endC 7 { c with re := wrap64 (c.re + 1) })) rfl rfl (S4.out.kd.at 3 rfl) (Nat.le_refl 15) (sizeCsL _) (csL_one _) ?_; intro wz nz gz)
            refine ret_blk_tmp rfl rfl (w.heap.size + 1 + 1 + 1) 27 (csL (endC 7 { c with re := wrap64 (c.re + 1) })) _ rfl nz Tryd.underlying27 rfl (sizeCsL _) ?_
            rw [HE.out]
            exact ⟨_, _, _, rfl, rowV_blk S4.out.r (S4.out.kd.at 3 rfl) gz int_ne_case, (S4.out.kd.store 3 rfl nz gz).bb⟩
          · by_cases h6q : ev.k = 6
            · have hk := h6q
              clear h6q
              have HE : Hid (takR l ev c = ({ c with cf := wrap64 (c.cf + ev.a), lf := wrap64 (c.lf + ev.a) }, [])) := by show _ = _; simp [takR, hk, feeM]
              have k1 : (ev.k == 1) = false := by simp [hk]
              have k2 : (ev.k == 2) = false := by simp [hk]
              have k3 : (ev.k == 3) = false := by simp [hk]
              have k4 : (ev.k == 4) = false := by simp [hk]
              have k5 : (ev.k == 5) = false := by simp [hk]
              have k6 : (ev.k == 6) = true := by simp [hk]
              clear hk
              have S1 : Hid (KD w [(w.heap.size, 24, polL l s), (w.heap.size + 1, 27, csL c), (w.heap.size + 1 + 1, 37, evL ev), (w.heap.size + 1 + 1 + 1, 27, csL ⟨0, false, 0, 0, 0, 0, 0, 0, 0, 0, 0, 0, 0, 0, 0⟩)] ((((w.alloc (.cells (polL l s).toArray 24)).alloc (.cells (csL c).toArray 27)).alloc (.cells (evL ev).toArray 37)).alloc (.cells #[.int .i64 0, .bool false, .int .i64 0, .int .i64 0, .int .i64 0, .int .i64 0, .int .i64 0, .int .i64 0, .int .i64 0, .int .i64 0, .int .i64 0, .int .i64 0, .int .i64 0, .int .i64 0, .int .i64 0] 27))) := KD.four w _ _ _ _ _ _ _ _
              go_enter Tryd.func28, Tryd.ntmps28
              go_upto_region 1 with fail
              generalize ((((w.alloc (.cells (polL l s).toArray 24)).alloc (.cells (csL c).toArray 27)).alloc (.cells (evL ev).toArray 37)).alloc (.cells #[.int .i64 0, .bool false, .int .i64 0, .int .i64 0, .int .i64 0, .int .i64 0, .int .i64 0, .int .i64 0, .int .i64 0, .int .i64 0, .int .i64 0, .int .i64 0, .int .i64 0, .int .i64 0, .int .i64 0] 27)) = w1 at *
              have c13 : w1.cell? ⟨w.heap.size + 1, 13, none⟩ = some (.int .i64 c.cf) := S1.out.cell 1 13 rfl _ rfl
              have f13 := S1.out.fz 1 13 rfl
              have c14 : w1.cell? ⟨w.heap.size + 1, 14, none⟩ = some (.int .i64 c.lf) := S1.out.cell 1 14 rfl _ rfl
              have f14 := S1.out.fz 1 14 rfl
              have e0 : w1.cell? ⟨w.heap.size + 1 + 1, 0, none⟩ = some (.int .i64 ev.k) := S1.out.cell 2 0 rfl _ rfl
              have e3 : w1.cell? ⟨w.heap.size + 1 + 1, 3, none⟩ = some (.int .i64 ev.a) := S1.out.cell 2 3 rfl _ rfl
              have lt := S1.out.lt 1 rfl
              have q1 : KD w [(w.heap.size, 24, polL l s), (w.heap.size + 1, 27, csL { c with cf := wrap64 (c.cf + ev.a) }), (w.heap.size + 1 + 1, 37, evL ev), (w.heap.size + 1 + 1 + 1, 27, csL ⟨0, false, 0, 0, 0, 0, 0, 0, 0, 0, 0, 0, 0, 0, 0⟩)] (w1.setCell ⟨w.heap.size + 1, 13, none⟩ (.int .i64 (wrap64 (c.cf + ev.a)))) := S1.out.set 1 13 rfl (.int .i64 (wrap64 (c.cf + ev.a)))
              have q2 : KD w [(w.heap.size, 24, polL l s), (w.heap.size + 1, 27, csL { c with cf := wrap64 (c.cf + ev.a), lf := wrap64 (c.lf + ev.a) }), (w.heap.size + 1 + 1, 37, evL ev), (w.heap.size + 1 + 1 + 1, 27, csL ⟨0, false, 0, 0, 0, 0, 0, 0, 0, 0, 0, 0, 0, 0, 0⟩)] ((w1.setCell ⟨w.heap.size + 1, 13, none⟩ (.int .i64 (wrap64 (c.cf + ev.a)))).setCell ⟨w.heap.size + 1, 14, none⟩ (.int .i64 (wrap64 (c.lf + ev.a)))) := q1.set 1 14 rfl (.int .i64 (wrap64 (c.lf + ev.a)))
              have S2 : Hid (KD w [(w.heap.size, 24, polL l s), (w.heap.size + 1, 27, csL { c with cf := wrap64 (c.cf + ev.a), lf := wrap64 (c.lf + ev.a) }), (w.heap.size + 1 + 1, 37, evL ev), (w.heap.size + 1 + 1 + 1, 27, csL ⟨0, false, 0, 0, 0, 0, 0, 0, 0, 0, 0, 0, 0, 0, 0⟩)] ((w1.setCell ⟨w.heap.size + 1, 13, none⟩ (.int .i64 (wrap64 (c.cf + ev.a)))).setCell ⟨w.heap.size + 1, 14, none⟩ (.int .i64 (wrap64 (c.lf + ev.a))))) := q2
              clear q1 q2
              clear S1
              go_upto_region 22 with fail
              generalize ((w1.setCell ⟨w.heap.size + 1, 13, none⟩ (.int .i64 (wrap64 (c.cf + ev.a)))).setCell ⟨w.heap.size + 1, 14, none⟩ (.int .i64 (wrap64 (c.lf + ev.a)))) = w2 at *
              clear c13 c14 f13 f14 e0 e3 lt
              go_wp2_with (first
              | ((with_reducible refine at_loadT 27 ?_); refine step_load rfl 27 _ rfl (w.heap.size + 1) 0 rfl (csL { c with cf := wrap64 (c.cf + ev.a), lf := wrap64 (c.lf + ev.a) }) _ (Blk.all (S2.out.at 1 rfl)) Tryd.underlying27 rfl (sizeCsL _) ?_)
              | ((with_reducible refine at_store ?_); refine step_store rfl 27 _ _ rfl (w.heap.size + 1 + 1 + 1) 0 27 (csL ⟨0, false, 0, 0, 0, 0, 0, 0, 0, 0, 0, 0, 0, 0, 0⟩) (csL ({ c with cf := wrap64 (c.cf + ev.a), lf := wrap64 (c.lf + ev.a) })) rfl rfl (S2.out.at 3 rfl) (Nat.le_refl 15) (sizeCsL _) (csL_one _) ?_; intro wz nz gz))
              refine ret_blk_tmp rfl rfl (w.heap.size + 1 + 1 + 1) 27 (csL ({ c with cf := wrap64 (c.cf + ev.a), lf := wrap64 (c.lf + ev.a) })) _ rfl nz Tryd.underlying27 rfl (sizeCsL _) ?_
              rw [HE.out]
              exact ⟨_, _, _, rfl, RowV.nil _ _ _, (S2.out.store 3 rfl nz gz).bb⟩
            · have k1 : (ev.k == 1) = false := by simp [h1q]
              have k2 : (ev.k == 2) = false := by simp [h2q]
              have k3 : (ev.k == 3) = false := by simp [h3q]
              have k4 : (ev.k == 4) = false := by simp [h4q]
              have k5 : (ev.k == 5) = false := by simp [h5q]
              have k6 : (ev.k == 6) = false := by simp [h6q]
              cases hp : opn c
              · have HE : Hid (takR l ev c = ({ c with st := 9 }, [] ++ [8])) := by show _ = _; simp [takR, h1q, h2q, h3q, h4q, h5q, h6q, shutM, shut1, hp]
                clear h1q h2q h3q h4q h5q h6q
                have S1 : Hid (KD w [(w.heap.size, 24, polL l s), (w.heap.size + 1, 27, csL c), (w.heap.size + 1 + 1, 37, evL ev), (w.heap.size + 1 + 1 + 1, 27, csL ⟨0, false, 0, 0, 0, 0, 0, 0, 0, 0, 0, 0, 0, 0, 0⟩)] ((((w.alloc (.cells (polL l s).toArray 24)).alloc (.cells (csL c).toArray 27)).alloc (.cells (evL ev).toArray 37)).alloc (.cells #[.int .i64 0, .bool false, .int .i64 0, .int .i64 0, .int .i64 0, .int .i64 0, .int .i64 0, .int .i64 0, .int .i64 0, .int .i64 0, .int .i64 0, .int .i64 0, .int .i64 0, .int .i64 0, .int .i64 0] 27))) := KD.four w _ _ _ _ _ _ _ _
                go_enter Tryd.func28, Tryd.ntmps28
                go_upto_region 1 with fail
                generalize ((((w.alloc (.cells (polL l s).toArray 24)).alloc (.cells (csL c).toArray 27)).alloc (.cells (evL ev).toArray 37)).alloc (.cells #[.int .i64 0, .bool false, .int .i64 0, .int .i64 0, .int .i64 0, .int .i64 0, .int .i64 0, .int .i64 0, .int .i64 0, .int .i64 0, .int .i64 0, .int .i64 0, .int .i64 0, .int .i64 0, .int .i64 0] 27)) = w1 at *
                have e0 : w1.cell? ⟨w.heap.size + 1 + 1, 0, none⟩ = some (.int .i64 ev.k) := S1.out.cell 2 0 rfl _ rfl
                go_wp2_with ((with_reducible refine at_loadT 27 ?_); refine step_load rfl 27 _ rfl (w.heap.size + 1) 0 rfl (csL c) _ (Blk.all (S1.out.at 1 rfl)) Tryd.underlying27 rfl (sizeCsL _) ?_)
                refine (OP.out c _).mono ?_
                rw [hp]
                rintro e w2 ⟨rfl, bX⟩
                have S2 : Hid (KR w [(w.heap.size, 24, polL l s), (w.heap.size + 1, 27, csL c), (w.heap.size + 1 + 1, 37, evL ev), (w.heap.size + 1 + 1 + 1, 27, csL ⟨0, false, 0, 0, 0, 0, 0, 0, 0, 0, 0, 0, 0, 0, 0⟩)] (.slice none 0 0) [] w2) := ⟨S1.out.call bX, RowV.nil _ _ _⟩
                clear bX S1 e0
                have S5 : Hid _ := S2.out
                clear S2
                go_upto_region 27 with fail
                have c0 : w2.cell? ⟨w.heap.size + 1, 0, none⟩ = some (.int .i64 c.st) := S5.out.kd.cell 1 0 rfl _ rfl
                have f0 := S5.out.kd.fz 1 0 rfl
                have lt := S5.out.kd.lt 1 rfl
                have q1 : KR w [(w.heap.size, 24, polL l s), (w.heap.size + 1, 27, csL { c with st := 9 }), (w.heap.size + 1 + 1, 37, evL ev), (w.heap.size + 1 + 1 + 1, 27, csL ⟨0, false, 0, 0, 0, 0, 0, 0, 0, 0, 0, 0, 0, 0, 0⟩)] (.slice none 0 0) [] (w2.setCell ⟨w.heap.size + 1, 0, none⟩ (.int .i64 9)) := S5.out.set 1 0 rfl int_ne_case (.int .i64 9)
                have S6 : Hid (KR w [(w.heap.size, 24, polL l s), (w.heap.size + 1, 27, csL { c with st := 9 }), (w.heap.size + 1 + 1, 37, evL ev), (w.heap.size + 1 + 1 + 1, 27, csL ⟨0, false, 0, 0, 0, 0, 0, 0, 0, 0, 0, 0, 0, 0, 0⟩)] (.slice none 0 0) [] (w2.setCell ⟨w.heap.size + 1, 0, none⟩ (.int .i64 9))) := q1
                clear q1
                clear S5
                go_upto_region 28 with fail
                generalize (w2.setCell ⟨w.heap.size + 1, 0, none⟩ (.int .i64 9)) = w5 at *
                clear c0 f0 lt
                go_upto_region 29 with (at_builtin; refine wpList_pushS rfl (.tmp 87) (.tmp 88) 22 rfl 3 i0 (.int .i64 0) 8 Tryd.underlying22 hi0 hz0 hz1 hz2 rfl w.heap.size _ (bkL []) _ rfl rfl S6.out.r S6.out.kd.bb.size rfl (len1C (by simp)) (len2C (by simp)) ?_; intro la ln lc wl rk gk)
                have S7 : Hid (KR w [(w.heap.size, 24, polL l s), (w.heap.size + 1, 27, csL ({ c with st := 9 })), (w.heap.size + 1 + 1, 37, evL ev), (w.heap.size + 1 + 1 + 1, 27, csL ⟨0, false, 0, 0, 0, 0, 0, 0, 0, 0, 0, 0, 0, 0, 0⟩)] (.slice la ln lc) ([] ++ [8]) wl) := S6.out.row (fun k q hq => by rcases k with _ | k; (· cases hq; first | exact int_ne_case | exact int_ne_ev | exact int_ne_pol); rcases k with _ | k; (· cases hq; first | exact int_ne_case | exact int_ne_ev | exact int_ne_pol); rcases k with _ | k; (· cases hq; first | exact int_ne_case | exact int_ne_ev | exact int_ne_pol); rcases k with _ | k; (· cases hq; first | exact int_ne_case | exact int_ne_ev | exact int_ne_pol); cases hq) gk (by rw [bkL_app]; exact rk)
                clear rk gk S6
                go_wp2_with (first
                | ((with_reducible refine at_loadT 27 ?_); refine step_load rfl 27 _ rfl (w.heap.size + 1) 0 rfl (csL ({ c with st := 9 })) _ (Blk.all (S7.out.kd.at 1 rfl)) Tryd.underlying27 rfl (sizeCsL _) ?_)
                | ((with_reducible refine at_store ?_); refine step_store rfl 27 _ _ rfl (w.heap.size + 1 + 1 + 1) 0 27 (csL ⟨0, false, 0, 0, 0, 0, 0, 0, 0, 0, 0, 0, 0, 0, 0⟩) (csL ({ c with st := 9 })) rfl rfl (S7.out.kd.at 3 rfl) (Nat.le_refl 15) (sizeCsL _) (csL_one _) ?_; intro wz nz gz))
                refine ret_blk_tmp rfl rfl (w.heap.size + 1 + 1 + 1) 27 (csL ({ c with st := 9 })) _ rfl nz Tryd.underlying27 rfl (sizeCsL _) ?_
                rw [HE.out]
                exact ⟨_, _, _, rfl, (rowV_blk S7.out.r (S7.out.kd.at 3 rfl) gz int_ne_case), (S7.out.kd.store 3 rfl nz gz).bb⟩
              · have HE : Hid (takR l ev c = ({ curd c with st := 9 }, ([] ++ [6]) ++ [8])) := by show _ = _; simp [takR, h1q, h2q, h3q, h4q, h5q, h6q, shutM, shut1, hp]
                clear h1q h2q h3q h4q h5q h6q
                have S1 : Hid (KD w [(w.heap.size, 24, polL l s), (w.heap.size + 1, 27, csL c), (w.heap.size + 1 + 1, 37, evL ev), (w.heap.size + 1 + 1 + 1, 27, csL ⟨0, false, 0, 0, 0, 0, 0, 0, 0, 0, 0, 0, 0, 0, 0⟩)] ((((w.alloc (.cells (polL l s).toArray 24)).alloc (.cells (csL c).toArray 27)).alloc (.cells (evL ev).toArray 37)).alloc (.cells #[.int .i64 0, .bool false, .int .i64 0, .int .i64 0, .int .i64 0, .int .i64 0, .int .i64 0, .int .i64 0, .int .i64 0, .int .i64 0, .int .i64 0, .int .i64 0, .int .i64 0, .int .i64 0, .int .i64 0] 27))) := KD.four w _ _ _ _ _ _ _ _
                go_enter Tryd.func28, Tryd.ntmps28
                go_upto_region 1 with fail
                generalize ((((w.alloc (.cells (polL l s).toArray 24)).alloc (.cells (csL c).toArray 27)).alloc (.cells (evL ev).toArray 37)).alloc (.cells #[.int .i64 0, .bool false, .int .i64 0, .int .i64 0, .int .i64 0, .int .i64 0, .int .i64 0, .int .i64 0, .int .i64 0, .int .i64 0, .int .i64 0, .int .i64 0, .int .i64 0, .int .i64 0, .int .i64 0] 27)) = w1 at *
                have e0 : w1.cell? ⟨w.heap.size + 1 + 1, 0, none⟩ = some (.int .i64 ev.k) := S1.out.cell 2 0 rfl _ rfl
                go_wp2_with ((with_reducible refine at_loadT 27 ?_); refine step_load rfl 27 _ rfl (w.heap.size + 1) 0 rfl (csL c) _ (Blk.all (S1.out.at 1 rfl)) Tryd.underlying27 rfl (sizeCsL _) ?_)
                refine (OP.out c _).mono ?_
                rw [hp]
                rintro e w2 ⟨rfl, bX⟩
                have S2 : Hid (KR w [(w.heap.size, 24, polL l s), (w.heap.size + 1, 27, csL c), (w.heap.size + 1 + 1, 37, evL ev), (w.heap.size + 1 + 1 + 1, 27, csL ⟨0, false, 0, 0, 0, 0, 0, 0, 0, 0, 0, 0, 0, 0, 0⟩)] (.slice none 0 0) [] w2) := ⟨S1.out.call bX, RowV.nil _ _ _⟩
                clear bX S1 e0
                go_wp2_with ((with_reducible refine at_loadT 27 ?_); refine step_load rfl 27 _ rfl (w.heap.size + 1) 0 rfl (csL c) _ (Blk.all (S2.out.kd.at 1 rfl)) Tryd.underlying27 rfl (sizeCsL _) ?_)
                refine (CU.out _ _).mono ?_
                rintro e w3 ⟨rfl, bX⟩
                have S3 : Hid (KR w [(w.heap.size, 24, polL l s), (w.heap.size + 1, 27, csL c), (w.heap.size + 1 + 1, 37, evL ev), (w.heap.size + 1 + 1 + 1, 27, csL ⟨0, false, 0, 0, 0, 0, 0, 0, 0, 0, 0, 0, 0, 0, 0⟩)] (.slice none 0 0) [] w3) := S2.out.call bX
                clear bX S2
                go_upto_region 26 with ((with_reducible refine at_store ?_); refine step_store rfl 27 _ _ rfl (w.heap.size + 1) 0 27 (csL c) (csL (curd c)) rfl rfl (S3.out.kd.at 1 rfl) (Nat.le_refl 15) (sizeCsL _) (csL_one _) ?_; intro w4 n3 g3)
                have S4 : Hid (KR w [(w.heap.size, 24, polL l s), (w.heap.size + 1, 27, csL (curd c)), (w.heap.size + 1 + 1, 37, evL ev), (w.heap.size + 1 + 1 + 1, 27, csL ⟨0, false, 0, 0, 0, 0, 0, 0, 0, 0, 0, 0, 0, 0, 0⟩)] (.slice none 0 0) [] w4) := S3.out.store 1 rfl int_ne_case n3 g3
                clear n3 g3 S3
                go_upto_region 27 with (at_builtin; refine wpList_pushS rfl (.tmp 83) (.tmp 84) 22 rfl 3 i0 (.int .i64 0) 8 Tryd.underlying22 hi0 hz0 hz1 hz2 rfl w.heap.size _ (bkL []) _ rfl rfl S4.out.r S4.out.kd.bb.size rfl (len1C (by simp)) (len2C (by simp)) ?_; intro ka kn kc wk rk gk)
                have S5 : Hid (KR w [(w.heap.size, 24, polL l s), (w.heap.size + 1, 27, csL (curd c)), (w.heap.size + 1 + 1, 37, evL ev), (w.heap.size + 1 + 1 + 1, 27, csL ⟨0, false, 0, 0, 0, 0, 0, 0, 0, 0, 0, 0, 0, 0, 0⟩)] (.slice ka kn kc) ([] ++ [6]) wk) := S4.out.row (fun k q hq => by rcases k with _ | k; (· cases hq; first | exact int_ne_case | exact int_ne_ev | exact int_ne_pol); rcases k with _ | k; (· cases hq; first | exact int_ne_case | exact int_ne_ev | exact int_ne_pol); rcases k with _ | k; (· cases hq; first | exact int_ne_case | exact int_ne_ev | exact int_ne_pol); rcases k with _ | k; (· cases hq; first | exact int_ne_case | exact int_ne_ev | exact int_ne_pol); cases hq) gk (by rw [bkL_app]; exact rk)
                clear rk gk S4
                obtain ⟨ww, hww⟩ : ∃ ww, wk = ww := ⟨_, rfl⟩
                subst hww
                have c0 : wk.cell? ⟨w.heap.size + 1, 0, none⟩ = some (.int .i64 (curd c).st) := S5.out.kd.cell 1 0 rfl _ rfl
                have f0 := S5.out.kd.fz 1 0 rfl
                have lt := S5.out.kd.lt 1 rfl
                have q1 : KR w [(w.heap.size, 24, polL l s), (w.heap.size + 1, 27, csL { curd c with st := 9 }), (w.heap.size + 1 + 1, 37, evL ev), (w.heap.size + 1 + 1 + 1, 27, csL ⟨0, false, 0, 0, 0, 0, 0, 0, 0, 0, 0, 0, 0, 0, 0⟩)] (.slice ka kn kc) ([] ++ [6]) (wk.setCell ⟨w.heap.size + 1, 0, none⟩ (.int .i64 9)) := S5.out.set 1 0 rfl int_ne_case (.int .i64 9)
                have S6 : Hid (KR w [(w.heap.size, 24, polL l s), (w.heap.size + 1, 27, csL { curd c with st := 9 }), (w.heap.size + 1 + 1, 37, evL ev), (w.heap.size + 1 + 1 + 1, 27, csL ⟨0, false, 0, 0, 0, 0, 0, 0, 0, 0, 0, 0, 0, 0, 0⟩)] (.slice ka kn kc) ([] ++ [6]) (wk.setCell ⟨w.heap.size + 1, 0, none⟩ (.int .i64 9))) := q1
                clear q1
                clear S5
                go_upto_region 28 with fail
                generalize (wk.setCell ⟨w.heap.size + 1, 0, none⟩ (.int .i64 9)) = w5 at *
                clear c0 f0 lt
                go_upto_region 29 with (at_builtin; refine wpList_pushS rfl (.tmp 87) (.tmp 88) 22 rfl 3 i0 (.int .i64 0) 8 Tryd.underlying22 hi0 hz0 hz1 hz2 rfl w.heap.size _ (bkL ([] ++ [6])) _ rfl rfl S6.out.r S6.out.kd.bb.size rfl (len1C (by simp)) (len2C (by simp)) ?_; intro la ln lc wl rk gk)
                have S7 : Hid (KR w [(w.heap.size, 24, polL l s), (w.heap.size + 1, 27, csL ({ curd c with st := 9 })), (w.heap.size + 1 + 1, 37, evL ev), (w.heap.size + 1 + 1 + 1, 27, csL ⟨0, false, 0, 0, 0, 0, 0, 0, 0, 0, 0, 0, 0, 0, 0⟩)] (.slice la ln lc) (([] ++ [6]) ++ [8]) wl) := S6.out.row (fun k q hq => by rcases k with _ | k; (· cases hq; first | exact int_ne_case | exact int_ne_ev | exact int_ne_pol); rcases k with _ | k; (· cases hq; first | exact int_ne_case | exact int_ne_ev | exact int_ne_pol); rcases k with _ | k; (· cases hq; first | exact int_ne_case | exact int_ne_ev | exact int_ne_pol); rcases k with _ | k; (· cases hq; first | exact int_ne_case | exact int_ne_ev | exact int_ne_pol); cases hq) gk (by rw [bkL_app]; exact rk)
                clear rk gk S6
                go_wp2_with (first
                | ((with_reducible refine at_loadT 27 ?_); refine step_load rfl 27 _ rfl (w.heap.size + 1) 0 rfl (csL ({ curd c with st := 9 })) _ (Blk.all (S7.out.kd.at 1 rfl)) Tryd.underlying27 rfl (sizeCsL _) ?_)
                | ((with_reducible refine at_store ?_); refine step_store rfl 27 _ _ rfl (w.heap.size + 1 + 1 + 1) 0 27 (csL ⟨0, false, 0, 0, 0, 0, 0, 0, 0, 0, 0, 0, 0, 0, 0⟩) (csL ({ curd c with st := 9 })) rfl rfl (S7.out.kd.at 3 rfl) (Nat.le_refl 15) (sizeCsL _) (csL_one _) ?_; intro wz nz gz))
                refine ret_blk_tmp rfl rfl (w.heap.size + 1 + 1 + 1) 27 (csL ({ curd c with st := 9 })) _ rfl nz Tryd.underlying27 rfl (sizeCsL _) ?_
                rw [HE.out]
                exact ⟨_, _, _, rfl, (rowV_blk S7.out.r (S7.out.kd.at 3 rfl) gz int_ne_case), (S7.out.kd.store 3 rfl nz gz).bb⟩

set_option linter.unusedSimpArgs false in
set_option maxRecDepth 20000 in
set_option maxHeartbeats 8000000 in
theorem rstep_at (l hs : List Int) (s : Value) (c : Cs) (ev : Ev) (w : World) (hl : l.length = 17) (hr : Rd w s (bkL hs)) (hb : hs.length ≤ 1152921504606846976) (hq : good l hs = true → FQ l c) : Calls Tryd.prog 21 #[PV l s, csV c, evV ev] w (StepAns (stepA l hs c ev) w) := by
  show Calls _ _ #[.agg (polL l s).toArray, .agg (csL c).toArray, .agg (evL ev).toArray] _ _
  have HL : Hid (l.length = 17) := hl
  have SZ : Hid ((Tryd.prog.info? 24).map (·.size) = some (polL l s).length) := by show _ = _; rw [polL_len hl]; exact sizeP
  have CK0 : Hid ((good l hs = false → ∀ w', Below w.heap.size w w' → Calls Tryd.prog 25 #[PV l s] w' fun e w'' => e = .returned (.tuple #[.int .i64 120, .int .i64 (chk l hs : Int)]) ∧ Below w'.heap.size w' w'') ∧ (good l hs = true → ∀ w', Below w.heap.size w w' → Calls Tryd.prog 25 #[PV l s] w' fun e w'' => e = .returned (.tuple #[.int .i64 0, .int .i64 (chk l hs : Int)]) ∧ Below w'.heap.size w' w'')) := by
    have x := fun w' h => rcheck_at l hs s w' hl (Rd.later hr h) hb
    refine ⟨fun hg w' h => ?_, fun hg w' h => ?_⟩
    · have e1 : PolM.ev (chk l hs) = 120 := by have : ¬ chk l hs = 0 := by simpa [good] using hg
                                               simp [PolM.ev, this]
      have y := x w' h; rw [e1] at y; exact y
    · have e1 : PolM.ev (chk l hs) = 0 := by have : chk l hs = 0 := by simpa [good] using hg
                                             simp [PolM.ev, this]
      have y := x w' h; rw [e1] at y; exact y
  have HQ : Hid (good l hs = true → FQ l c) := hq
  clear hl hq hr hb
  cases hg : good l hs
  · have HE : Hid (stepA l hs c ev = (120, (c, []))) := step_bad hg
    have CK : Hid _ := CK0.out.1 hg
    have S1 : Hid (KD w [(w.heap.size, 24, polL l s), (w.heap.size + 1, 27, csL c), (w.heap.size + 1 + 1, 37, evL ev), (w.heap.size + 1 + 1 + 1, 27, csL ⟨0, false, 0, 0, 0, 0, 0, 0, 0, 0, 0, 0, 0, 0, 0⟩)] ((((w.alloc (.cells (polL l s).toArray 24)).alloc (.cells (csL c).toArray 27)).alloc (.cells (evL ev).toArray 37)).alloc (.cells #[.int .i64 0, .bool false, .int .i64 0, .int .i64 0, .int .i64 0, .int .i64 0, .int .i64 0, .int .i64 0, .int .i64 0, .int .i64 0, .int .i64 0, .int .i64 0, .int .i64 0, .int .i64 0, .int .i64 0] 27))) := KD.four w _ _ _ _ _ _ _ _
    go_enter Tryd.func21, Tryd.ntmps21
    go_upto_region 1 with fail
    generalize ((((w.alloc (.cells (polL l s).toArray 24)).alloc (.cells (csL c).toArray 27)).alloc (.cells (evL ev).toArray 37)).alloc (.cells #[.int .i64 0, .bool false, .int .i64 0, .int .i64 0, .int .i64 0, .int .i64 0, .int .i64 0, .int .i64 0, .int .i64 0, .int .i64 0, .int .i64 0, .int .i64 0, .int .i64 0, .int .i64 0, .int .i64 0] 27)) = w1 at *
    go_wp2_with ((with_reducible refine at_loadT 24 ?_); refine step_load rfl 24 _ rfl (w.heap.size) 0 rfl (polL l s) _ (Blk.all (S1.out.at 0 rfl)) Tryd.underlying24 rfl SZ.out ?_)
    refine (CK.out _ S1.out.bb).mono ?_
    rintro e w2 ⟨rfl, bX⟩
    have S2 : Hid (KD w [(w.heap.size, 24, polL l s), (w.heap.size + 1, 27, csL c), (w.heap.size + 1 + 1, 37, evL ev), (w.heap.size + 1 + 1 + 1, 27, csL ⟨0, false, 0, 0, 0, 0, 0, 0, 0, 0, 0, 0, 0, 0, 0⟩)] w2) := S1.out.call bX
    clear bX S1
    go_upto_region 3 with fail
    go_wp2_with (first
    | ((with_reducible refine at_loadT 27 ?_); refine step_load rfl 27 _ rfl (w.heap.size + 1) 0 rfl (csL c) _ (Blk.all (S2.out.at 1 rfl)) Tryd.underlying27 rfl (sizeCsL _) ?_)
    | ((with_reducible refine at_store ?_); refine step_store rfl 27 _ _ rfl (w.heap.size + 1 + 1 + 1) 0 27 (csL ⟨0, false, 0, 0, 0, 0, 0, 0, 0, 0, 0, 0, 0, 0, 0⟩) (csL c) rfl rfl (S2.out.at 3 rfl) (Nat.le_refl 15) (sizeCsL _) (csL_one _) ?_; intro wz nz gz))
    refine ret_blk_tmp_tmp rfl rfl (w.heap.size + 1 + 1 + 1) 27 (csL c) _ rfl nz Tryd.underlying27 rfl (sizeCsL _) ?_
    rw [HE.out]
    exact StepAns.no (S2.out.store 3 rfl nz gz).bb
  · have CK : Hid _ := CK0.out.2 hg
    have ER := step_ref hg c ev
    unfold refR at ER
    have FTS := HQ.out hg
    by_cases hk : ev.k < 1 ∨ 7 < ev.k
    · have HE : Hid (stepA l hs c ev = (2, (c, []))) := by show _ = _; rw [ER, if_pos hk]
      by_cases hk1 : ev.k < 1
      · have d1 : decide (ev.k < 1) = true := decide_eq_true hk1
        clear hk hk1 ER FTS
        have S1 : Hid (KD w [(w.heap.size, 24, polL l s), (w.heap.size + 1, 27, csL c), (w.heap.size + 1 + 1, 37, evL ev), (w.heap.size + 1 + 1 + 1, 27, csL ⟨0, false, 0, 0, 0, 0, 0, 0, 0, 0, 0, 0, 0, 0, 0⟩)] ((((w.alloc (.cells (polL l s).toArray 24)).alloc (.cells (csL c).toArray 27)).alloc (.cells (evL ev).toArray 37)).alloc (.cells #[.int .i64 0, .bool false, .int .i64 0, .int .i64 0, .int .i64 0, .int .i64 0, .int .i64 0, .int .i64 0, .int .i64 0, .int .i64 0, .int .i64 0, .int .i64 0, .int .i64 0, .int .i64 0, .int .i64 0] 27))) := KD.four w _ _ _ _ _ _ _ _
        go_enter Tryd.func21, Tryd.ntmps21
        go_upto_region 1 with fail
        generalize ((((w.alloc (.cells (polL l s).toArray 24)).alloc (.cells (csL c).toArray 27)).alloc (.cells (evL ev).toArray 37)).alloc (.cells #[.int .i64 0, .bool false, .int .i64 0, .int .i64 0, .int .i64 0, .int .i64 0, .int .i64 0, .int .i64 0, .int .i64 0, .int .i64 0, .int .i64 0, .int .i64 0, .int .i64 0, .int .i64 0, .int .i64 0] 27)) = w1 at *
        go_wp2_with ((with_reducible refine at_loadT 24 ?_); refine step_load rfl 24 _ rfl (w.heap.size) 0 rfl (polL l s) _ (Blk.all (S1.out.at 0 rfl)) Tryd.underlying24 rfl SZ.out ?_)
        refine (CK.out _ S1.out.bb).mono ?_
        rintro e w2 ⟨rfl, bX⟩
        have S2 : Hid (KD w [(w.heap.size, 24, polL l s), (w.heap.size + 1, 27, csL c), (w.heap.size + 1 + 1, 37, evL ev), (w.heap.size + 1 + 1 + 1, 27, csL ⟨0, false, 0, 0, 0, 0, 0, 0, 0, 0, 0, 0, 0, 0, 0⟩)] w2) := S1.out.call bX
        clear bX S1
        have e0 : w2.cell? ⟨w.heap.size + 1 + 1, 0, none⟩ = some (.int .i64 ev.k) := S2.out.cell 2 0 rfl _ rfl
        go_upto_region 5 with fail
        go_wp2_with (first
        | ((with_reducible refine at_loadT 27 ?_); refine step_load rfl 27 _ rfl (w.heap.size + 1) 0 rfl (csL c) _ (Blk.all (S2.out.at 1 rfl)) Tryd.underlying27 rfl (sizeCsL _) ?_)
        | ((with_reducible refine at_store ?_); refine step_store rfl 27 _ _ rfl (w.heap.size + 1 + 1 + 1) 0 27 (csL ⟨0, false, 0, 0, 0, 0, 0, 0, 0, 0, 0, 0, 0, 0, 0⟩) (csL c) rfl rfl (S2.out.at 3 rfl) (Nat.le_refl 15) (sizeCsL _) (csL_one _) ?_; intro wz nz gz))
        refine ret_blk_tmp_tmp rfl rfl (w.heap.size + 1 + 1 + 1) 27 (csL c) _ rfl nz Tryd.underlying27 rfl (sizeCsL _) ?_
        rw [HE.out]
        exact StepAns.no (S2.out.store 3 rfl nz gz).bb
      · have d1 : decide (ev.k < 1) = false := decide_eq_false hk1
        have d7 : decide (7 < ev.k) = true := decide_eq_true (by omega)
        clear hk hk1 ER FTS
        have S1 : Hid (KD w [(w.heap.size, 24, polL l s), (w.heap.size + 1, 27, csL c), (w.heap.size + 1 + 1, 37, evL ev), (w.heap.size + 1 + 1 + 1, 27, csL ⟨0, false, 0, 0, 0, 0, 0, 0, 0, 0, 0, 0, 0, 0, 0⟩)] ((((w.alloc (.cells (polL l s).toArray 24)).alloc (.cells (csL c).toArray 27)).alloc (.cells (evL ev).toArray 37)).alloc (.cells #[.int .i64 0, .bool false, .int .i64 0, .int .i64 0, .int .i64 0, .int .i64 0, .int .i64 0, .int .i64 0, .int .i64 0, .int .i64 0, .int .i64 0, .int .i64 0, .int .i64 0, .int .i64 0, .int .i64 0] 27))) := KD.four w _ _ _ _ _ _ _ _
        go_enter Tryd.func21, Tryd.ntmps21
        go_upto_region 1 with fail
        generalize ((((w.alloc (.cells (polL l s).toArray 24)).alloc (.cells (csL c).toArray 27)).alloc (.cells (evL ev).toArray 37)).alloc (.cells #[.int .i64 0, .bool false, .int .i64 0, .int .i64 0, .int .i64 0, .int .i64 0, .int .i64 0, .int .i64 0, .int .i64 0, .int .i64 0, .int .i64 0, .int .i64 0, .int .i64 0, .int .i64 0, .int .i64 0] 27)) = w1 at *
        go_wp2_with ((with_reducible refine at_loadT 24 ?_); refine step_load rfl 24 _ rfl (w.heap.size) 0 rfl (polL l s) _ (Blk.all (S1.out.at 0 rfl)) Tryd.underlying24 rfl SZ.out ?_)
        refine (CK.out _ S1.out.bb).mono ?_
        rintro e w2 ⟨rfl, bX⟩
        have S2 : Hid (KD w [(w.heap.size, 24, polL l s), (w.heap.size + 1, 27, csL c), (w.heap.size + 1 + 1, 37, evL ev), (w.heap.size + 1 + 1 + 1, 27, csL ⟨0, false, 0, 0, 0, 0, 0, 0, 0, 0, 0, 0, 0, 0, 0⟩)] w2) := S1.out.call bX
        clear bX S1
        have e0 : w2.cell? ⟨w.heap.size + 1 + 1, 0, none⟩ = some (.int .i64 ev.k) := S2.out.cell 2 0 rfl _ rfl
        go_upto_region 5 with fail
        go_wp2_with (first
        | ((with_reducible refine at_loadT 27 ?_); refine step_load rfl 27 _ rfl (w.heap.size + 1) 0 rfl (csL c) _ (Blk.all (S2.out.at 1 rfl)) Tryd.underlying27 rfl (sizeCsL _) ?_)
        | ((with_reducible refine at_store ?_); refine step_store rfl 27 _ _ rfl (w.heap.size + 1 + 1 + 1) 0 27 (csL ⟨0, false, 0, 0, 0, 0, 0, 0, 0, 0, 0, 0, 0, 0, 0⟩) (csL c) rfl rfl (S2.out.at 3 rfl) (Nat.le_refl 15) (sizeCsL _) (csL_one _) ?_; intro wz nz gz))
        refine ret_blk_tmp_tmp rfl rfl (w.heap.size + 1 + 1 + 1) 27 (csL c) _ rfl nz Tryd.underlying27 rfl (sizeCsL _) ?_
        rw [HE.out]
        exact StepAns.no (S2.out.store 3 rfl nz gz).bb
    · have d1 : decide (ev.k < 1) = false := decide_eq_false (by omega)
      have d7 : decide (7 < ev.k) = false := decide_eq_false (by omega)
      rw [if_neg hk] at ER
      have NU : Hid (∀ w', Calls Tryd.prog 26 #[PV l s, evV ev] w' fun e w'' => e = .returned (.int .i64 (numR (l.getD 10 0) ev)) ∧ Below w'.heap.size w' w'') := fun w' => rnum_at l s ev HL.out w'
      by_cases hn : numR (l.getD 10 0) ev ≠ 0
      · have HE : Hid (stepA l hs c ev = (numR (l.getD 10 0) ev, (c, []))) := by show _ = _; rw [ER, if_pos hn]
        have dn : (numR (l.getD 10 0) ev != 0) = true := by simpa using hn
        clear hk ER FTS hn
        generalize numR (l.getD 10 0) ev = nn at *
        have S1 : Hid (KD w [(w.heap.size, 24, polL l s), (w.heap.size + 1, 27, csL c), (w.heap.size + 1 + 1, 37, evL ev), (w.heap.size + 1 + 1 + 1, 27, csL ⟨0, false, 0, 0, 0, 0, 0, 0, 0, 0, 0, 0, 0, 0, 0⟩)] ((((w.alloc (.cells (polL l s).toArray 24)).alloc (.cells (csL c).toArray 27)).alloc (.cells (evL ev).toArray 37)).alloc (.cells #[.int .i64 0, .bool false, .int .i64 0, .int .i64 0, .int .i64 0, .int .i64 0, .int .i64 0, .int .i64 0, .int .i64 0, .int .i64 0, .int .i64 0, .int .i64 0, .int .i64 0, .int .i64 0, .int .i64 0] 27))) := KD.four w _ _ _ _ _ _ _ _
        go_enter Tryd.func21, Tryd.ntmps21
        go_upto_region 1 with fail
        generalize ((((w.alloc (.cells (polL l s).toArray 24)).alloc (.cells (csL c).toArray 27)).alloc (.cells (evL ev).toArray 37)).alloc (.cells #[.int .i64 0, .bool false, .int .i64 0, .int .i64 0, .int .i64 0, .int .i64 0, .int .i64 0, .int .i64 0, .int .i64 0, .int .i64 0, .int .i64 0, .int .i64 0, .int .i64 0, .int .i64 0, .int .i64 0] 27)) = w1 at *
        go_wp2_with ((with_reducible refine at_loadT 24 ?_); refine step_load rfl 24 _ rfl (w.heap.size) 0 rfl (polL l s) _ (Blk.all (S1.out.at 0 rfl)) Tryd.underlying24 rfl SZ.out ?_)
        refine (CK.out _ S1.out.bb).mono ?_
        rintro e w2 ⟨rfl, bX⟩
        have S2 : Hid (KD w [(w.heap.size, 24, polL l s), (w.heap.size + 1, 27, csL c), (w.heap.size + 1 + 1, 37, evL ev), (w.heap.size + 1 + 1 + 1, 27, csL ⟨0, false, 0, 0, 0, 0, 0, 0, 0, 0, 0, 0, 0, 0, 0⟩)] w2) := S1.out.call bX
        clear bX S1
        have e0 : w2.cell? ⟨w.heap.size + 1 + 1, 0, none⟩ = some (.int .i64 ev.k) := S2.out.cell 2 0 rfl _ rfl
        go_wp2_with (first
        | ((with_reducible refine at_loadT 24 ?_); refine step_load rfl 24 _ rfl (w.heap.size) 0 rfl (polL l s) _ (Blk.all (S2.out.at 0 rfl)) Tryd.underlying24 rfl SZ.out ?_)
        | ((with_reducible refine at_loadT 37 ?_); refine step_load rfl 37 _ rfl (w.heap.size + 1 + 1) 0 rfl (evL ev) _ (Blk.all (S2.out.at 2 rfl)) Tryd.underlying37 rfl (sizeEvL _) ?_))
        refine (NU.out _).mono ?_
        rintro e w3 ⟨rfl, bX⟩
        have S3 : Hid (KD w [(w.heap.size, 24, polL l s), (w.heap.size + 1, 27, csL c), (w.heap.size + 1 + 1, 37, evL ev), (w.heap.size + 1 + 1 + 1, 27, csL ⟨0, false, 0, 0, 0, 0, 0, 0, 0, 0, 0, 0, 0, 0, 0⟩)] w3) := S2.out.call bX
        clear bX S2 e0
        go_upto_region 8 with fail
        go_wp2_with (first
        | ((with_reducible refine at_loadT 27 ?_); refine step_load rfl 27 _ rfl (w.heap.size + 1) 0 rfl (csL c) _ (Blk.all (S3.out.at 1 rfl)) Tryd.underlying27 rfl (sizeCsL _) ?_)
        | ((with_reducible refine at_store ?_); refine step_store rfl 27 _ _ rfl (w.heap.size + 1 + 1 + 1) 0 27 (csL ⟨0, false, 0, 0, 0, 0, 0, 0, 0, 0, 0, 0, 0, 0, 0⟩) (csL c) rfl rfl (S3.out.at 3 rfl) (Nat.le_refl 15) (sizeCsL _) (csL_one _) ?_; intro wz nz gz))
        refine ret_blk_tmp_tmp rfl rfl (w.heap.size + 1 + 1 + 1) 27 (csL c) _ rfl nz Tryd.underlying27 rfl (sizeCsL _) ?_
        rw [HE.out]
        exact StepAns.no (S3.out.store 3 rfl nz gz).bb
      · rw [if_neg hn] at ER
        have hn0 : numR (l.getD 10 0) ev = 0 := by omega
        have ha0 : Hid (ev.k = 6 → 1 ≤ ev.a) := fun h1 => by
          by_cases hx : ev.a < 1
          · have : numR (l.getD 10 0) ev = 4 := by simp [numR, h1, hx]
            omega
          · omega
        have hd0 : Hid (ev.k = 1 → 0 ≤ ev.d) := fun h1 => by
          by_cases hx : ev.d < 0
          · have : numR (l.getD 10 0) ev = 2 := by simp [numR, h1, hx]
            omega
          · omega
        have TA : Hid (∀ w', Calls Tryd.prog 28 #[PV l s, csV c, evV ev] w' (RunAns (takR l ev c) w')) := fun w' => rtak_at l s c ev HL.out hd0.out FTS.1 w'
        have SA : Hid (∀ w', Calls Tryd.prog 27 #[PV l s, csV c, evV ev] w' fun e w'' => e = .returned (.int .i64 (staR (l.getD 9 0) (l.getD 11 0) (l.getD 7 0) (l.getD 8 0) c ev)) ∧ Below w'.heap.size w' w'') := fun w' => rsta_at l s c ev HL.out (fun h6 => FTS.2.1 _ (ha0.out h6)) (fun h6 => FTS.2.2 _ (ha0.out h6)) w'
        rw [hn0] at NU
        clear hn hn0 hd0 ha0 FTS hk
        generalize staR (l.getD 9 0) (l.getD 11 0) (l.getD 7 0) (l.getD 8 0) c ev = ns at *
        by_cases hs0 : ns ≠ 0
        · have HE : Hid (stepA l hs c ev = (ns, (c, []))) := by show _ = _; rw [ER, if_pos hs0]
          have dn : (ns != 0) = true := by simpa using hs0
          clear ER hs0
          have S1 : Hid (KD w [(w.heap.size, 24, polL l s), (w.heap.size + 1, 27, csL c), (w.heap.size + 1 + 1, 37, evL ev), (w.heap.size + 1 + 1 + 1, 27, csL ⟨0, false, 0, 0, 0, 0, 0, 0, 0, 0, 0, 0, 0, 0, 0⟩)] ((((w.alloc (.cells (polL l s).toArray 24)).alloc (.cells (csL c).toArray 27)).alloc (.cells (evL ev).toArray 37)).alloc (.cells #[.int .i64 0, .bool false, .int .i64 0, .int .i64 0, .int .i64 0, .int .i64 0, .int .i64 0, .int .i64 0, .int .i64 0, .int .i64 0, .int .i64 0, .int .i64 0, .int .i64 0, .int .i64 0, .int .i64 0] 27))) := KD.four w _ _ _ _ _ _ _ _
          go_enter Tryd.func21, Tryd.ntmps21
          go_upto_region 1 with fail
          generalize ((((w.alloc (.cells (polL l s).toArray 24)).alloc (.cells (csL c).toArray 27)).alloc (.cells (evL ev).toArray 37)).alloc (.cells #[.int .i64 0, .bool false, .int .i64 0, .int .i64 0, .int .i64 0, .int .i64 0, .int .i64 0, .int .i64 0, .int .i64 0, .int .i64 0, .int .i64 0, .int .i64 0, .int .i64 0, .int .i64 0, .int .i64 0] 27)) = w1 at *
          go_wp2_with ((with_reducible refine at_loadT 24 ?_); refine step_load rfl 24 _ rfl (w.heap.size) 0 rfl (polL l s) _ (Blk.all (S1.out.at 0 rfl)) Tryd.underlying24 rfl SZ.out ?_)
          refine (CK.out _ S1.out.bb).mono ?_
          rintro e w2 ⟨rfl, bX⟩
          have S2 : Hid (KD w [(w.heap.size, 24, polL l s), (w.heap.size + 1, 27, csL c), (w.heap.size + 1 + 1, 37, evL ev), (w.heap.size + 1 + 1 + 1, 27, csL ⟨0, false, 0, 0, 0, 0, 0, 0, 0, 0, 0, 0, 0, 0, 0⟩)] w2) := S1.out.call bX
          clear bX S1
          have e0 : w2.cell? ⟨w.heap.size + 1 + 1, 0, none⟩ = some (.int .i64 ev.k) := S2.out.cell 2 0 rfl _ rfl
          go_wp2_with (first
          | ((with_reducible refine at_loadT 24 ?_); refine step_load rfl 24 _ rfl (w.heap.size) 0 rfl (polL l s) _ (Blk.all (S2.out.at 0 rfl)) Tryd.underlying24 rfl SZ.out ?_)
          | ((with_reducible refine at_loadT 37 ?_); refine step_load rfl 37 _ rfl (w.heap.size + 1 + 1) 0 rfl (evL ev) _ (Blk.all (S2.out.at 2 rfl)) Tryd.underlying37 rfl (sizeEvL _) ?_))
          refine (NU.out _).mono ?_
          rintro e w3 ⟨rfl, bX⟩
          have S3 : Hid (KD w [(w.heap.size, 24, polL l s), (w.heap.size + 1, 27, csL c), (w.heap.size + 1 + 1, 37, evL ev), (w.heap.size + 1 + 1 + 1, 27, csL ⟨0, false, 0, 0, 0, 0, 0, 0, 0, 0, 0, 0, 0, 0, 0⟩)] w3) := S2.out.call bX
          clear bX S2 e0
          go_wp2_with (first
          | ((with_reducible refine at_loadT 24 ?_); refine step_load rfl 24 _ rfl (w.heap.size) 0 rfl (polL l s) _ (Blk.all (S3.out.at 0 rfl)) Tryd.underlying24 rfl SZ.out ?_)
          | ((with_reducible refine at_loadT 27 ?_); refine step_load rfl 27 _ rfl (w.heap.size + 1) 0 rfl (csL c) _ (Blk.all (S3.out.at 1 rfl)) Tryd.underlying27 rfl (sizeCsL _) ?_)
          | ((with_reducible refine at_loadT 37 ?_); refine step_load rfl 37 _ rfl (w.heap.size + 1 + 1) 0 rfl (evL ev) _ (Blk.all (S3.out.at 2 rfl)) Tryd.underlying37 rfl (sizeEvL _) ?_))
          refine (SA.out _).mono ?_
          rintro e w4 ⟨rfl, bX⟩
          have S4 : Hid (KD w [(w.heap.size, 24, polL l s), (w.heap.size + 1, 27, csL c), (w.heap.size + 1 + 1, 37, evL ev), (w.heap.size + 1 + 1 + 1, 27, csL ⟨0, false, 0, 0, 0, 0, 0, 0, 0, 0, 0, 0, 0, 0, 0⟩)] w4) := S3.out.call bX
          clear bX S3
          go_upto_region 11 with fail
          go_wp2_with (first
          | ((with_reducible refine at_loadT 27 ?_); refine step_load rfl 27 _ rfl (w.heap.size + 1) 0 rfl (csL c) _ (Blk.all (S4.out.at 1 rfl)) Tryd.underlying27 rfl (sizeCsL _) ?_)
          | ((with_reducible refine at_store ?_); refine step_store rfl 27 _ _ rfl (w.heap.size + 1 + 1 + 1) 0 27 (csL ⟨0, false, 0, 0, 0, 0, 0, 0, 0, 0, 0, 0, 0, 0, 0⟩) (csL c) rfl rfl (S4.out.at 3 rfl) (Nat.le_refl 15) (sizeCsL _) (csL_one _) ?_; intro wz nz gz))
          refine ret_blk_tmp_tmp rfl rfl (w.heap.size + 1 + 1 + 1) 27 (csL c) _ rfl nz Tryd.underlying27 rfl (sizeCsL _) ?_
          rw [HE.out]
          exact StepAns.no (S4.out.store 3 rfl nz gz).bb
        · have HE : Hid (stepA l hs c ev = (0, takR l ev c)) := by show _ = _; rw [ER, if_neg hs0]
          obtain rfl : ns = 0 := by omega
          clear ER hs0
          generalize takR l ev c = xx at *
          have S1 : Hid (KD w [(w.heap.size, 24, polL l s), (w.heap.size + 1, 27, csL c), (w.heap.size + 1 + 1, 37, evL ev), (w.heap.size + 1 + 1 + 1, 27, csL ⟨0, false, 0, 0, 0, 0, 0, 0, 0, 0, 0, 0, 0, 0, 0⟩)] ((((w.alloc (.cells (polL l s).toArray 24)).alloc (.cells (csL c).toArray 27)).alloc (.cells (evL ev).toArray 37)).alloc (.cells #[.int .i64 0, .bool false, .int .i64 0, .int .i64 0, .int .i64 0, .int .i64 0, .int .i64 0, .int .i64 0, .int .i64 0, .int .i64 0, .int .i64 0, .int .i64 0, .int .i64 0, .int .i64 0, .int .i64 0] 27))) := KD.four w _ _ _ _ _ _ _ _
          go_enter Tryd.func21, Tryd.ntmps21
          go_upto_region 1 with fail
          generalize ((((w.alloc (.cells (polL l s).toArray 24)).alloc (.cells (csL c).toArray 27)).alloc (.cells (evL ev).toArray 37)).alloc (.cells #[.int .i64 0, .bool false, .int .i64 0, .int .i64 0, .int .i64 0, .int .i64 0, .int .i64 0, .int .i64 0, .int .i64 0, .int .i64 0, .int .i64 0, .int .i64 0, .int .i64 0, .int .i64 0, .int .i64 0] 27)) = w1 at *
          go_wp2_with ((with_reducible refine at_loadT 24 ?_); refine step_load rfl 24 _ rfl (w.heap.size) 0 rfl (polL l s) _ (Blk.all (S1.out.at 0 rfl)) Tryd.underlying24 rfl SZ.out ?_)
          refine (CK.out _ S1.out.bb).mono ?_
          rintro e w2 ⟨rfl, bX⟩
          have S2 : Hid (KD w [(w.heap.size, 24, polL l s), (w.heap.size + 1, 27, csL c), (w.heap.size + 1 + 1, 37, evL ev), (w.heap.size + 1 + 1 + 1, 27, csL ⟨0, false, 0, 0, 0, 0, 0, 0, 0, 0, 0, 0, 0, 0, 0⟩)] w2) := S1.out.call bX
          clear bX S1
          have e0 : w2.cell? ⟨w.heap.size + 1 + 1, 0, none⟩ = some (.int .i64 ev.k) := S2.out.cell 2 0 rfl _ rfl
          go_wp2_with (first
          | ((with_reducible refine at_loadT 24 ?_); refine step_load rfl 24 _ rfl (w.heap.size) 0 rfl (polL l s) _ (Blk.all (S2.out.at 0 rfl)) Tryd.underlying24 rfl SZ.out ?_)
          | ((with_reducible refine at_loadT 37 ?_); refine step_load rfl 37 _ rfl (w.heap.size + 1 + 1) 0 rfl (evL ev) _ (Blk.all (S2.out.at 2 rfl)) Tryd.underlying37 rfl (sizeEvL _) ?_))
          refine (NU.out _).mono ?_
          rintro e w3 ⟨rfl, bX⟩
          have S3 : Hid (KD w [(w.heap.size, 24, polL l s), (w.heap.size + 1, 27, csL c), (w.heap.size + 1 + 1, 37, evL ev), (w.heap.size + 1 + 1 + 1, 27, csL ⟨0, false, 0, 0, 0, 0, 0, 0, 0, 0, 0, 0, 0, 0, 0⟩)] w3) := S2.out.call bX
          clear bX S2 e0
          go_wp2_with (first
          | ((with_reducible refine at_loadT 24 ?_); refine step_load rfl 24 _ rfl (w.heap.size) 0 rfl (polL l s) _ (Blk.all (S3.out.at 0 rfl)) Tryd.underlying24 rfl SZ.out ?_)
          | ((with_reducible refine at_loadT 27 ?_); refine step_load rfl 27 _ rfl (w.heap.size + 1) 0 rfl (csL c) _ (Blk.all (S3.out.at 1 rfl)) Tryd.underlying27 rfl (sizeCsL _) ?_)
          | ((with_reducible refine at_loadT 37 ?_); refine step_load rfl 37 _ rfl (w.heap.size + 1 + 1) 0 rfl (evL ev) _ (Blk.all (S3.out.at 2 rfl)) Tryd.underlying37 rfl (sizeEvL _) ?_))
          refine (SA.out _).mono ?_
          rintro e w4 ⟨rfl, bX⟩
          have S4 : Hid (KD w [(w.heap.size, 24, polL l s), (w.heap.size + 1, 27, csL c), (w.heap.size + 1 + 1, 37, evL ev), (w.heap.size + 1 + 1 + 1, 27, csL ⟨0, false, 0, 0, 0, 0, 0, 0, 0, 0, 0, 0, 0, 0, 0⟩)] w4) := S3.out.call bX
          clear bX S3
          go_wp2_with (first
          | ((with_reducible refine at_loadT 24 ?_); refine step_load rfl 24 _ rfl (w.heap.size) 0 rfl (polL l s) _ (Blk.all (S4.out.at 0 rfl)) Tryd.underlying24 rfl SZ.out ?_)
          | ((with_reducible refine at_loadT 27 ?_); refine step_load rfl 27 _ rfl (w.heap.size + 1) 0 rfl (csL c) _ (Blk.all (S4.out.at 1 rfl)) Tryd.underlying27 rfl (sizeCsL _) ?_)
          | ((with_reducible refine at_loadT 37 ?_); refine step_load rfl 37 _ rfl (w.heap.size + 1 + 1) 0 rfl (evL ev) _ (Blk.all (S4.out.at 2 rfl)) Tryd.underlying37 rfl (sizeEvL _) ?_))
          refine (TA.out _).mono ?_
          rintro e w5 ⟨ra, rn, rc, rfl, rrow, bX⟩
          have S5 : Hid (KR w [(w.heap.size, 24, polL l s), (w.heap.size + 1, 27, csL c), (w.heap.size + 1 + 1, 37, evL ev), (w.heap.size + 1 + 1 + 1, 27, csL ⟨0, false, 0, 0, 0, 0, 0, 0, 0, 0, 0, 0, 0, 0, 0⟩)] (.slice ra rn rc) xx.2 w5) := ⟨S4.out.call bX, rrow.mono S4.out.bb.size⟩
          clear bX S4 rrow
          have NZ : Hid (Blk w5.heap.size 27 (csL ⟨0, false, 0, 0, 0, 0, 0, 0, 0, 0, 0, 0, 0, 0, 0⟩) (w5.alloc (.cells #[.int .i64 0, .bool false, .int .i64 0, .int .i64 0, .int .i64 0, .int .i64 0, .int .i64 0, .int .i64 0, .int .i64 0, .int .i64 0, .int .i64 0, .int .i64 0, .int .i64 0, .int .i64 0, .int .i64 0] 27))) := Blk.new _ _ _
          go_upto_region 13 with ((with_reducible refine at_store ?_); refine step_store rfl 27 _ _ rfl w5.heap.size 0 27 (csL ⟨0, false, 0, 0, 0, 0, 0, 0, 0, 0, 0, 0, 0, 0, 0⟩) (csL xx.1) rfl rfl NZ.out (Nat.le_refl 15) (sizeCsL _) (csL_one _) ?_; intro w9 n9 g9)
          have S9 : Hid (KR w [(w.heap.size, 24, polL l s), (w.heap.size + 1, 27, csL c), (w.heap.size + 1 + 1, 37, evL ev), (w.heap.size + 1 + 1 + 1, 27, csL ⟨0, false, 0, 0, 0, 0, 0, 0, 0, 0, 0, 0, 0, 0, 0⟩)] (.slice ra rn rc) xx.2 w9) := S5.out.past NZ.out g9
          have N9 : Hid (Blk w5.heap.size 27 (csL xx.1) w9) := n9
          clear n9 g9 NZ S5
          obtain ⟨DB, hDB⟩ : ∃ DB, w5.heap.size = DB := ⟨_, rfl⟩
          rw [hDB] at N9
          rw [hDB]
          clear hDB
          go_wp2_with (first
          | ((with_reducible refine at_loadT 27 ?_); refine step_load rfl 27 _ rfl DB 0 rfl (csL xx.1) _ (Blk.all N9.out) Tryd.underlying27 rfl (sizeCsL _) ?_)
          | ((with_reducible refine at_store ?_); refine step_store rfl 27 _ _ rfl (w.heap.size + 1 + 1 + 1) 0 27 (csL ⟨0, false, 0, 0, 0, 0, 0, 0, 0, 0, 0, 0, 0, 0, 0⟩) (csL xx.1) rfl rfl (S9.out.kd.at 3 rfl) (Nat.le_refl 15) (sizeCsL _) (csL_one _) ?_; intro wz nz gz))
          refine ret_blk_tmp_tmp rfl rfl (w.heap.size + 1 + 1 + 1) 27 (csL xx.1) _ rfl nz Tryd.underlying27 rfl (sizeCsL _) ?_
          rw [HE.out]
          exact ⟨_, _, _, rfl, rowV_blk S9.out.r (S9.out.kd.at 3 rfl) gz int_ne_case, (S9.out.kd.store 3 rfl nz gz).bb⟩
end Go.Proofs.YtmbbigkpeefjjabDoor
