/-
  Ours: Step (gen_cost.py).
-/
import Derived.Test.YtmbbigkpeefjjabDoorCoSr
namespace Go.Proofs.YtmbbigkpeefjjabDoor
open Go.RowKit LedM PolM CoM

set_option maxRecDepth 20000 in
set_option maxHeartbeats 4000000 in
theorem step_at (l hs : List Int) (s : Value) (c : Cs) (ev : Ev) (w : World) (hl : l.length = 17) (hr : Rd w s (bkL hs)) (hb : hs.length ≤ 1152921504606846976) :
    Calls Tryd.prog 20 #[PV l s, csV c, evV ev] w (StepAns (stepA l hs c ev) w) := by
  show Calls _ _ #[.agg (polL l s).toArray, .agg (csL c).toArray, .agg (evL ev).toArray] _ _
  have CK : Hid (∀ w', Below w.heap.size w w' → Calls Tryd.prog 23 #[PV l s] w' fun e w'' => e = .returned (.tuple #[.int .i64 (PolM.ev (chk l hs)), .int .i64 (chk l hs : Int)]) ∧ Below w'.heap.size w' w'') := fun w' h' => check_at l hs s w' hl (hr.later h') hb
  have RU : Hid (∀ w', Calls Tryd.prog 24 #[.int .i64 ev.k] w' fun e w'' => e = .returned (.tuple #[if 1 ≤ ev.k ∧ ev.k ≤ 7 then .func (.func (ruleF ev.k)) #[] #[] else .nilFunc, .bool (decide (1 ≤ ev.k ∧ ev.k ≤ 7))]) ∧ Below w'.heap.size w' w'') := fun w' => crule_at ev.k w'
  obtain ⟨ao, cp, rfl, -, -, -⟩ := hr
  rw [bkL_len] at CK ⊢
  generalize hs.length = N at *
  have HL : Hid (l.length = 17) := hl
  have SZ : Hid ((Tryd.prog.info? 24).map (·.size) = some (polL l (.slice ao N cp)).length) := by show _ = _; rw [polL_len hl]; exact sizeP
  have S1 : Hid (SS l (.slice ao N cp) c ev w ((((w.alloc (.cells (polL l (.slice ao N cp)).toArray 24)).alloc (.cells (csL c).toArray 27)).alloc (.cells (evL ev).toArray 37)).alloc (.cells #[.int .i64 0, .bool false, .int .i64 0, .int .i64 0, .int .i64 0, .int .i64 0, .int .i64 0, .int .i64 0, .int .i64 0, .int .i64 0, .int .i64 0, .int .i64 0, .int .i64 0, .int .i64 0, .int .i64 0] 27))) := by
    refine ⟨?_, ?_, ?_, ?_, below_trans (below_trans (below_trans (below_alloc _ _) (below_alloc _ _)) (below_alloc _ _)) (below_alloc _ _)⟩
    · exact (((Blk.new _ _ _).old _).old _).old _
    · exact ((Blk.new2 _ _ _ _).old _).old _
    · exact (Blk.new3 _ _ _ _ _).old _
    · have := Blk.new 27 (csL ⟨0, false, 0, 0, 0, 0, 0, 0, 0, 0, 0, 0, 0, 0, 0⟩) (((w.alloc (.cells (polL l (.slice ao N cp)).toArray 24)).alloc (.cells (csL c).toArray 27)).alloc (.cells (evL ev).toArray 37))
      rwa [show (((w.alloc (.cells (polL l (.slice ao N cp)).toArray 24)).alloc (.cells (csL c).toArray 27)).alloc (.cells (evL ev).toArray 37)).heap.size = w.heap.size + 1 + 1 + 1 from by simp] at this
  have LP : Hid (∀ n, PolM.ev n = if n = 0 then 0 else 120) := fun n => rfl
  have GD : Hid (good l hs = decide (chk l hs = 0)) := rfl
  by_cases hc : chk l hs = 0
  · have EV : Hid (PolM.ev (chk l hs) = 0) := by show _ = _; rw [LP.out, if_pos hc]
    rw [EV.out] at CK
    have ES : stepM l hs c ev = ruleR l ev (c, []) := by simp [stepM, GD.out, hc]
    by_cases hk : 1 ≤ ev.k ∧ ev.k ≤ 7
    · have dk : decide (1 ≤ ev.k ∧ ev.k ≤ 7) = true := decide_eq_true hk
      rw [dk, if_pos hk] at RU
      have EN : ∀ (args : Array Value) (w : World), Sem.run Tryd.prog (callFunc (ruleF ev.k) args) w = .ok (.enter (ruleF ev.k) args) w := ruleF_ent ev.k hk
      have PL : Hid (∀ B M w', MAt B M l (.slice ao N cp) (c, []) w' → Calls Tryd.prog (ruleF ev.k) #[mptr M, evV ev] w' (Told B M l (.slice ao N cp) (ruleR l ev (c, [])) w')) := fun B M w' h' => play_at ev hk h' (by simp)
      have BM : Hid (∀ w, (Instr.build 67 #[(0, .agg (polL l (.slice ao N cp)).toArray), (1, .agg (csL c).toArray)]).run Tryd.prog w = .ok (.agg (mcL l (.slice ao N cp) c (.slice none 0 0)).toArray) w) := build_mc l (.slice ao N cp) c HL.out
      have EA : Hid (stepA l hs c ev = if (ruleR l ev (c, [])).1 = 0 then ruleR l ev (c, []) else ((ruleR l ev (c, [])).1, (c, []))) := by show _ = _; rw [stepA, ES]
      have SM : Hid ((Tryd.prog.info? 67).map (·.size) = some (mcL l (.slice ao N cp) c (.slice none 0 0)).length) := by show _ = _; rw [mcL_len HL.out]; exact sizeMc
      have FT : Hid (0 + (mcL l (.slice ao N cp) c (.slice none 0 0)).length ≤ mcZ.length) := by show _ ≤ _; rw [mcL_len HL.out]; exact Nat.le_refl 34
      have FZ : Hid (mcZ.length ≤ 0 + (mcL l (.slice ao N cp) c (.slice none 0 0)).length) := by show _ ≤ _; rw [mcL_len HL.out]; exact Nat.le_refl 34
      generalize stepA l hs c ev = ans at *
      generalize ruleR l ev (c, []) = rr at *
      generalize ruleF ev.k = F at *
      clear hc ES hk dk LP GD EV
      go_enter Tryd.func20, Tryd.ntmps20
      go_upto_region 1 with fail
      generalize (((w.alloc (.cells (polL l (.slice ao N cp)).toArray 24)).alloc (.cells (csL c).toArray 27)).alloc (.cells (evL ev).toArray 37)).alloc (.cells #[.int .i64 0, .bool false, .int .i64 0, .int .i64 0, .int .i64 0, .int .i64 0, .int .i64 0, .int .i64 0, .int .i64 0, .int .i64 0, .int .i64 0, .int .i64 0, .int .i64 0, .int .i64 0, .int .i64 0] 27) = w1 at *
      go_wp2_with (refine step_load rfl 24 _ rfl w.heap.size 0 rfl (polL l (.slice ao N cp)) _ (Blk.all S1.out.p) Tryd.underlying24 rfl SZ.out ?_)
      refine (CK.out _ S1.out.bb).mono ?_
      rintro e w2 ⟨rfl, b2⟩
      have S2 : Hid (SS l (.slice ao N cp) c ev w w2) := S1.out.later b2
      clear b2 S1 CK
      have ek := S2.out.ek
      go_wp2_with fail
      refine (RU.out _).mono ?_
      rintro e w3 ⟨rfl, b3⟩
      have S3 : Hid (SS l (.slice ao N cp) c ev w w3) := S2.out.later b3
      clear b3 S2 ek
      have NZ : Hid (Blk w3.heap.size 67 mcZ (w3.alloc (.cells #[.int .i64 0, .int .i64 0, .int .i64 0, .int .i64 0, .int .i64 0, .int .i64 0, .int .i64 0, .int .i64 0, .int .i64 0, .int .i64 0, .int .i64 0, .int .i64 0, .int .i64 0, .int .i64 0, .int .i64 0, .int .i64 0, .int .i64 0, .slice none 0 0, .int .i64 0, .bool false, .int .i64 0, .int .i64 0, .int .i64 0, .int .i64 0, .int .i64 0, .int .i64 0, .int .i64 0, .int .i64 0, .int .i64 0, .int .i64 0, .int .i64 0, .int .i64 0, .int .i64 0, .slice none 0 0] 67))) := Blk.new _ _ _
      have S4 : Hid (SS l (.slice ao N cp) c ev w (w3.alloc (.cells #[.int .i64 0, .int .i64 0, .int .i64 0, .int .i64 0, .int .i64 0, .int .i64 0, .int .i64 0, .int .i64 0, .int .i64 0, .int .i64 0, .int .i64 0, .int .i64 0, .int .i64 0, .int .i64 0, .int .i64 0, .int .i64 0, .int .i64 0, .slice none 0 0, .int .i64 0, .bool false, .int .i64 0, .int .i64 0, .int .i64 0, .int .i64 0, .int .i64 0, .int .i64 0, .int .i64 0, .int .i64 0, .int .i64 0, .int .i64 0, .int .i64 0, .int .i64 0, .int .i64 0, .slice none 0 0] 67))) := S3.out.later (below_alloc _ _)
      go_upto_region 8 with (first
      | (refine step_load rfl 24 _ rfl w.heap.size 0 rfl (polL l (.slice ao N cp)) _ (Blk.all S3.out.p) Tryd.underlying24 rfl SZ.out ?_)
      | (refine step_load rfl 27 _ rfl (w.heap.size + 1) 0 rfl (csL c) _ (Blk.all S3.out.c) Tryd.underlying27 rfl (sizeCsL c) ?_)
      | ((with_reducible refine at_build ?_); refine step_build2 rfl 67 0 1 _ _ rfl _ _ rfl rfl _ (BM.out _) ?_)
      | ((with_reducible refine at_store ?_); refine step_store rfl 67 _ _ rfl w3.heap.size 0 67 _ (mcL l (.slice ao N cp) c (.slice none 0 0)) rfl rfl NZ.out FT.out SM.out mcL_one ?_; intro w5 n5 g5))
      have N5 : Hid (MAt w.heap.size w3.heap.size l (.slice ao N cp) (c, []) w5) := ⟨S3.out.bb.size, HL.out, none, 0, 0, blk_whole2 FZ.out n5, RowV.nil _ _ _, by simp [Value.ownBlock]⟩
      have lt3 : Hid (w.heap.size + 1 + 1 + 1 < w3.heap.size) := S3.out.r.lt
      have S5 : Hid (SS l (.slice ao N cp) c ev w w5) := by
        have ne : ∀ k, k ≤ w.heap.size + 1 + 1 + 1 → some w3.heap.size ≠ some k := fun k hk e => by injection e with e; have := lt3.out; omega
        exact ⟨S4.out.p.grown g5 (ne _ (by omega)), S4.out.c.grown g5 (ne _ (by omega)), S4.out.e.grown g5 (ne _ (by omega)), S4.out.r.grown g5 (ne _ (by omega)), below_row S4.out.bb g5 (S3.out.bb.size)⟩
      clear n5 g5 NZ S4 FT FZ SM BM
      go_wp2_with (refine step_load rfl 37 _ rfl (w.heap.size + 1 + 1) 0 rfl (evL ev) _ (Blk.all S5.out.e) Tryd.underlying37 rfl (sizeEvL ev) ?_)
      refine (PL.out _ _ _ N5.out).mono ?_
      rintro e w6 ⟨rfl, m6, f6⟩
      have S6 : Hid (SS l (.slice ao N cp) c ev w w6) := by
        have ne : ∀ k, k ≤ w.heap.size + 1 + 1 + 1 → k ≠ w3.heap.size := fun k hk e => by have := lt3.out; omega
        exact ⟨f6.kp _ _ _ (ne _ (by omega)) (by decide) S5.out.p, f6.kp _ _ _ (ne _ (by omega)) (by decide) S5.out.c, f6.kp _ _ _ (ne _ (by omega)) (by decide) S5.out.e, f6.kp _ _ _ (ne _ (by omega)) (by decide) S5.out.r, S5.out.bb.trans f6.bb⟩
      have M6 : Hid (rr.1 = 0 → MAt w.heap.size w3.heap.size l (.slice ao N cp) rr.2 w6) := m6
      clear m6 f6 S5 N5 PL S3
      by_cases h0 : rr.1 = 0
      · have E1 : Hid (ans = rr) := by show _ = _; rw [EA.out, if_pos h0]
        obtain ⟨n0, c0, a0⟩ := rr
        simp only at h0
        subst h0
        have X6 : MAt w.heap.size w3.heap.size l (.slice ao N cp) (c0, a0) w6 := M6.out rfl
        obtain ⟨-, -, am, nm, cm, bm, rm, -⟩ := X6
        have X : Hid (w6.rangeAt w3.heap.size 18 (csL c0) ∧ w6.cell? ⟨w3.heap.size, 33, none⟩ = some (.slice am nm cm) ∧ RowV 3 w.heap.size w6 (.slice am nm cm) (bkL a0) ∧ Below w.heap.size w w6 ∧ (∃ zs : List Value, zs.length = 15 ∧ Blk (w.heap.size + 1 + 1 + 1) 27 zs w6)) := ⟨by have := bm.range 18 15; rwa [mcL_range HL.out] at this, bm.cell 33 _ (mcL_act HL.out), rm, S6.out.bb, _, rfl, S6.out.r⟩
        clear bm rm M6 EA
        go_upto_region 11 with fail
        have hu := Tryd.underlying27
        have hi := sizeCsL c0
        refine wp_region_held_drew (S := fun w' => w'.rangeAt w3.heap.size 18 (csL c0) ∧ w'.cell? ⟨w3.heap.size, 33, none⟩ = some (.slice am nm cm) ∧ RowV 3 w.heap.size w' (.slice am nm cm) (bkL a0) ∧ Below w.heap.size w w' ∧ (∃ zs : List Value, zs.length = 15 ∧ Blk (w.heap.size + 1 + 1 + 1) 27 zs w')) (by kernel_rfl) (⟨X.out.1, X.out.2.1, X.out.2.2.1, Below.drew X.out.2.2.2.1, X.out.2.2.2.2⟩) (fun hH => ?_)
        refine wpAnyH_take (i := 0) (oi := { dst := some 43, op := Op.fieldAddr 67 (Operand.tmp 13) 1, type := 0, pos := "collect.go:45", after := #[], guard := none }) (v := .pointer (some ⟨w3.heap.size, 18, none⟩)) rfl (by kernel_rfl) (by kernel_rfl) (by kernel_rfl) (fun _ _ _ h => h) (Or.inl ⟨by rfl, fun w' h => by go_simp⟩) hH ?_
        try simp only [Act.put, List.setIfInBounds_toArray, List.set_cons_zero, List.set_cons_succ]
        refine wpAnyH_take (i := 1) (oi := { dst := some 44, op := Op.load 27 (Operand.tmp 43), type := 27, pos := "collect.go:45", after := #[{ on := 0, ground := Ground.data }], guard := none }) (v := .agg (csL c0).toArray) rfl (by kernel_rfl) (by kernel_rfl) (by kernel_rfl) (fun _ _ _ h => h) (yieldsIf_load_mid (by rfl) _ _ rfl w3.heap.size 18 rfl (csL c0) _ (fun w' h => h.1) hu rfl hi) hH ?_
        try simp only [Act.put, List.setIfInBounds_toArray, List.set_cons_zero, List.set_cons_succ]
        refine wpAnyH_take (i := 2) (oi := { dst := some 45, op := Op.fieldAddr 67 (Operand.tmp 13) 2, type := 0, pos := "collect.go:45", after := #[{ on := 4, ground := Ground.gcOnly Departure.lateStores }], guard := none }) (v := .pointer (some ⟨w3.heap.size, 33, none⟩)) rfl (by kernel_rfl) (by kernel_rfl) (by kernel_rfl) (fun _ _ _ h => h) (Or.inl ⟨by rfl, fun w' h => by go_simp⟩) hH ?_
        try simp only [Act.put, List.setIfInBounds_toArray, List.set_cons_zero, List.set_cons_succ]
        refine wpAnyH_take (i := 3) (oi := { dst := some 46, op := Op.load 22 (Operand.tmp 45), type := 22, pos := "collect.go:45", after := #[{ on := 2, ground := Ground.data }, { on := 4, ground := Ground.gcOnly Departure.lateStores }], guard := none }) (v := .slice am nm cm) rfl (by kernel_rfl) (by kernel_rfl) (by kernel_rfl) (fun _ _ _ h => h) (Or.inl ⟨by rfl, fun w' h => by have q := h.2.1; go_simp⟩) hH ?_
        try simp only [Act.put, List.setIfInBounds_toArray, List.set_cons_zero, List.set_cons_succ]
        refine wpAnyH_ready (rs := [4]) (by kernel_rfl) (by simp) ?_
        refine AllReadyH.cons (o := { dst := none, op := Op.store 27 (Operand.tmp 6) (Operand.tmp 44), type := 0, pos := "collect.go:45", after := #[{ on := 1, ground := Ground.data }, { on := 0, ground := Ground.phase }, { on := 1, ground := Ground.phase }, { on := 2, ground := Ground.textOnly Departure.lateStores }, { on := 3, ground := Ground.textOnly Departure.lateStores }], guard := none }) rfl (fun K hK => ?_) AllReadyH.nil
        obtain ⟨x1, x2, x3, x4, zs, zl, zb⟩ := hH
        refine op_putC (csL c0) (by rw [zl]; rfl) (sizeCsL c0) (csL_one c0) rfl _ _ rfl (w.heap.size + 1 + 1 + 1) rfl rfl zb ?_
        intro w9 b9 g9
        have N9 : Hid (w9.rangeAt w3.heap.size 18 (csL c0) ∧ w9.cell? ⟨w3.heap.size, 33, none⟩ = some (.slice am nm cm) ∧ RowV 3 w.heap.size w9 (.slice am nm cm) (bkL a0) ∧ Below w.heap.size w w9 ∧ (∃ zs : List Value, zs.length = 15 ∧ Blk (w.heap.size + 1 + 1 + 1) 27 zs w9)) := by
          have nm3 : w3.heap.size ≠ w.heap.size + 1 + 1 + 1 := fun q => by have := lt3.out; omega
          refine ⟨?_, ?_, x3.kept g9 (fun g q e => row_ne_blkC x3 zb (by decide) (by rw [q, e])), below_row x4 g9 (by omega), _, rfl, b9⟩
          · intro j v hv
            have := x1 j v hv
            rw [← this]
            exact World.cell?_of_block (g9.block w3.heap.size (World.block_lt_of_cell? _ _ this) (fun q => by injection q with q; exact nm3 q))
          · rw [← x2]
            exact World.cell?_of_block (g9.block w3.heap.size (World.block_lt_of_cell? _ _ x2) (fun q => by injection q with q; exact nm3 q))
        refine hK.out _ _ N9.out (fun hH => ?_)
        simp only [Act.put]
        refine wpAnyH_take (i := 5) (oi := { dst := some 7, op := Op.assign (Operand.tmp 46), type := 22, pos := "collect.go:45", after := #[{ on := 3, ground := Ground.data }, { on := 4, ground := Ground.chain }, { on := 0, ground := Ground.phase }, { on := 1, ground := Ground.phase }, { on := 2, ground := Ground.phase }, { on := 3, ground := Ground.phase }, { on := 4, ground := Ground.phase }], guard := none }) (v := .slice am nm cm) rfl (by kernel_rfl) (by kernel_rfl) (by kernel_rfl) (fun _ _ _ h => h) (Or.inl ⟨by rfl, fun w' h => by go_simp⟩) hH ?_
        try simp only [Act.put, List.setIfInBounds_toArray, List.set_cons_zero, List.set_cons_succ]
        refine wpAnyH_take (i := 6) (oi := { dst := some 8, op := Op.assign (Operand.const (Value.int IntKind.i64 0)), type := 55, pos := "collect.go:45", after := #[{ on := 5, ground := Ground.chain }, { on := 0, ground := Ground.phase }, { on := 1, ground := Ground.phase }, { on := 2, ground := Ground.phase }, { on := 3, ground := Ground.phase }, { on := 4, ground := Ground.phase }, { on := 5, ground := Ground.phase }], guard := none }) (v := .int .i64 0) rfl (by kernel_rfl) (by kernel_rfl) (by kernel_rfl) (fun _ _ _ h => h) (Or.inl ⟨by rfl, fun w' h => by go_simp⟩) hH ?_
        try simp only [Act.put, List.setIfInBounds_toArray, List.set_cons_zero, List.set_cons_succ]
        refine wpAnyH_done (by kernel_rfl) ?_ _
        have B9 : Hid (Blk (w.heap.size + 1 + 1 + 1) 27 (csL c0) w9) := b9
        clear hH hK b9 g9 x1 x2 x3 x4 zb zl
        go_wp2_with fail
        refine ret_blk_tmp_tmp rfl rfl (w.heap.size + 1 + 1 + 1) 27 (csL c0) _ rfl B9.out Tryd.underlying27 rfl (sizeCsL c0) ?_
        rw [E1.out]
        exact ⟨am, nm, cm, rfl, N9.out.2.2.1, N9.out.2.2.2.1⟩
      · have E1 : Hid (ans = (rr.1, (c, []))) := by show _ = _; rw [EA.out, if_neg h0]
        have d0 : (rr.1 != 0) = true := by simpa using h0
        clear M6 EA h0
        generalize rr.1 = n0 at *
        go_wp2_with (first
        | (refine step_load rfl 27 _ rfl (w.heap.size + 1) 0 rfl (csL c) _ (Blk.all S6.out.c) Tryd.underlying27 rfl (sizeCsL c) ?_)
        | ((with_reducible refine at_store ?_); refine step_store rfl 27 _ _ rfl (w.heap.size + 1 + 1 + 1) 0 27 _ (csL c) rfl rfl S6.out.r (Nat.le_refl 15) (sizeCsL c) (csL_one c) ?_; intro w8 n8 g8))
        have N8 : Blk (w.heap.size + 1 + 1 + 1) 27 (csL c) w8 := n8
        refine ret_blk_tmp_tmp rfl rfl (w.heap.size + 1 + 1 + 1) 27 (csL c) _ rfl N8 Tryd.underlying27 rfl (sizeCsL c) ?_
        rw [E1.out]
        exact StepAns.no (below_row S6.out.bb g8 (by omega))
    · have E1 : stepA l hs c ev = (2, (c, [])) := by
        have e2 : ruleR l ev (c, []) = (2, (c, [])) := by unfold ruleR; rw [if_neg (by omega), if_neg (by omega), if_neg (by omega), if_neg (by omega), if_neg (by omega), if_neg (by omega), if_neg (by omega)]
        simp [stepA, ES, e2]
      rw [E1]
      have dk : decide (1 ≤ ev.k ∧ ev.k ≤ 7) = false := decide_eq_false hk
      rw [dk, if_neg hk] at RU
      clear hc E1 ES hk dk
      go_enter Tryd.func20, Tryd.ntmps20
      go_upto_region 1 with fail
      generalize (((w.alloc (.cells (polL l (.slice ao N cp)).toArray 24)).alloc (.cells (csL c).toArray 27)).alloc (.cells (evL ev).toArray 37)).alloc (.cells #[.int .i64 0, .bool false, .int .i64 0, .int .i64 0, .int .i64 0, .int .i64 0, .int .i64 0, .int .i64 0, .int .i64 0, .int .i64 0, .int .i64 0, .int .i64 0, .int .i64 0, .int .i64 0, .int .i64 0] 27) = w1 at *
      go_wp2_with (refine step_load rfl 24 _ rfl w.heap.size 0 rfl (polL l (.slice ao N cp)) _ (Blk.all S1.out.p) Tryd.underlying24 rfl SZ.out ?_)
      refine (CK.out _ S1.out.bb).mono ?_
      rintro e w2 ⟨rfl, b2⟩
      have S2 : Hid (SS l (.slice ao N cp) c ev w w2) := S1.out.later b2
      clear b2 S1 CK
      have ek := S2.out.ek
      go_wp2_with fail
      refine (RU.out _).mono ?_
      rintro e w3 ⟨rfl, b3⟩
      have S3 : Hid (SS l (.slice ao N cp) c ev w w3) := S2.out.later b3
      clear b3 S2 ek
      go_wp2_with (first
      | (refine step_load rfl 27 _ rfl (w.heap.size + 1) 0 rfl (csL c) _ (Blk.all S3.out.c) Tryd.underlying27 rfl (sizeCsL c) ?_)
      | ((with_reducible refine at_store ?_); refine step_store rfl 27 _ _ rfl (w.heap.size + 1 + 1 + 1) 0 27 _ (csL c) rfl rfl S3.out.r (Nat.le_refl 15) (sizeCsL c) (csL_one c) ?_; intro w8 n8 g8))
      have N8 : Blk (w.heap.size + 1 + 1 + 1) 27 (csL c) w8 := n8
      refine ret_blk_tmp_tmp rfl rfl (w.heap.size + 1 + 1 + 1) 27 (csL c) _ rfl N8 Tryd.underlying27 rfl (sizeCsL c) ?_
      exact StepAns.no (below_row S3.out.bb g8 (by omega))
  · have E1 : stepA l hs c ev = (120, (c, [])) := by simp [stepA, stepM, GD.out, hc]
    rw [E1]
    have EV : Hid (PolM.ev (chk l hs) = 120) := by show _ = _; rw [LP.out, if_neg hc]
    rw [EV.out] at CK
    clear hc E1
    generalize chk l hs = n at *
    go_enter Tryd.func20, Tryd.ntmps20
    go_upto_region 1 with fail
    generalize (((w.alloc (.cells (polL l (.slice ao N cp)).toArray 24)).alloc (.cells (csL c).toArray 27)).alloc (.cells (evL ev).toArray 37)).alloc (.cells #[.int .i64 0, .bool false, .int .i64 0, .int .i64 0, .int .i64 0, .int .i64 0, .int .i64 0, .int .i64 0, .int .i64 0, .int .i64 0, .int .i64 0, .int .i64 0, .int .i64 0, .int .i64 0, .int .i64 0] 27) = w1 at *
    go_wp2_with (refine step_load rfl 24 _ rfl w.heap.size 0 rfl (polL l (.slice ao N cp)) _ (Blk.all S1.out.p) Tryd.underlying24 rfl SZ.out ?_)
    refine (CK.out _ S1.out.bb).mono ?_
    rintro e w2 ⟨rfl, b2⟩
    have S2 : Hid (SS l (.slice ao N cp) c ev w w2) := S1.out.later b2
    clear b2 S1 CK
    go_wp2_with (first
    | (refine step_load rfl 27 _ rfl (w.heap.size + 1) 0 rfl (csL c) _ (Blk.all S2.out.c) Tryd.underlying27 rfl (sizeCsL c) ?_)
    | ((with_reducible refine at_store ?_); refine step_store rfl 27 _ _ rfl (w.heap.size + 1 + 1 + 1) 0 27 _ (csL c) rfl rfl S2.out.r (Nat.le_refl 15) (sizeCsL c) (csL_one c) ?_; intro w8 n8 g8))
    have N8 : Blk (w.heap.size + 1 + 1 + 1) 27 (csL c) w8 := n8
    refine ret_blk_tmp_tmp rfl rfl (w.heap.size + 1 + 1 + 1) 27 (csL c) _ rfl N8 Tryd.underlying27 rfl (sizeCsL c) ?_
    exact StepAns.no (below_row S2.out.bb g8 (by omega))
end Go.Proofs.YtmbbigkpeefjjabDoor
