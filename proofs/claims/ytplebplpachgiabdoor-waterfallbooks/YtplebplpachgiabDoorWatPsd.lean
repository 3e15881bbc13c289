/-
  Ours: posted: a payment's moves over the books, and back.
-/
import Derived.Test.YtplebplpachgiabDoorWatBkM
import Derived.Test.YtplebplpachgiabDoorLedTrial
import Derived.Test.YtplebplpachgiabDoorWatUndo
import Derived.Test.YtplebplpachgiabDoorWatKB
import Derived.Deep.CutRange
import Derived.Deep.RegionHeld
namespace Go.Proofs.YtplebplpachgiabDoor
open Go.RowKit LedM WatM

theorem KB.lt {w w1 : World} {bs : List (Nat × TypeId × List Value)} (h : KB w bs w1) : ∀ q ∈ bs, q.1 < w1.heap.size := fun q hq => (h.bk q hq).2.lt
theorem op_putK {ops : Array Oper} {op : Oper} {a : Act} {w wr : World} {K : Act → World → Prop} {Q : Exit → Act → World → Prop} {E : Prop} {bs : List (Nat × TypeId × List Value)} {T : TypeId} {zs : List Value} (hK : KB w bs wr) (vs : List Value) (hl : vs.length = zs.length) (hi : (Tryd.prog.info? T).map (·.size) = some vs.length) (h1 : ∀ v ∈ vs, v.oneCell' = true) (hgd : op.guard = Option.none) (x y : Operand) (ho : op.op = .store T x y)
    (G : Nat) (hx : a.eval x = .pointer (some ⟨G, 0, Option.none⟩)) (hy : a.eval y = .agg vs.toArray) (hb : Blk G T zs wr) (hG : ∀ q ∈ bs, q.1 < G) (hw : w.heap.size ≤ G)
    (h : ∀ w', KB w ((G, T, vs) :: bs) w' → KB w bs w' → K (a.put op.dst undef) w') : if Region.wanted op (yielded ops a.tmps) = true then Oper.wp Tryd.prog op a wr K Q else E := by
  have hwd : Region.wanted op (yielded ops a.tmps) = true := by simp [Region.wanted, hgd]
  rw [if_pos hwd]
  unfold Oper.wp execOp
  simp only [ho, hx, hy, Instr.storeAt, Instr.sureAddr, Sem.run_bind, Sem.run_pure, Result.andThen_ok, run_storeVar_blk wr G 0 T T zs vs hb (by omega) hi h1]
  have nb := setRow_heap wr G _ (zs.take 0 ++ vs ++ zs.drop (0 + vs.length)).toArray T _ hb
  have g := setRow_grown wr G (zs.take 0 ++ vs ++ zs.drop (0 + vs.length)).toArray
  have e : zs.take 0 ++ vs ++ zs.drop (0 + vs.length) = vs := by rw [Nat.zero_add, hl, List.drop_length]; simp
  rw [e] at nb g ⊢
  have hG2 : KB w bs (wr.setRow G vs.toArray) := ⟨hK.bb.grown g hK.bb.size (fun q e => by cases e; exact hw), fun q hq => ⟨(hK.bk q hq).1, (hK.bk q hq).2.grown g (by have := hG q hq; simp; omega)⟩⟩
  refine h _ ⟨hG2.bb, fun q hq => ?_⟩ hG2
  rcases List.mem_cons.1 hq with rfl | hq
  · exact ⟨hw, nb⟩
  · exact hG2.bk q hq
theorem KB.two (w : World) (T T' : TypeId) (cs ds : List Value) : KB w [(w.heap.size + 1, T', ds), (w.heap.size, T, cs)] ((w.alloc (.cells cs.toArray T)).alloc (.cells ds.toArray T')) := by
  have := ((KB.start w).new T cs).new T' ds
  rwa [show (w.alloc (.cells cs.toArray T)).heap.size = w.heap.size + 1 from by simp] at this

set_option maxRecDepth 20000 in
set_option maxHeartbeats 12000000 in
theorem posted_at (l A : List Int) (x y z u r a d : Int) (w : World) (hl : BkOk l) (hA : BkOk A) (hT : TabD w) (hx : i64 x) (hy : i64 y) (hz : i64 z) (hu : i64 u) (hr : i64 r) (ha : i64 a)
    (e1 : postE l (entsP x y z u r) = 0) (e2 : postB l (entsP x y z u r) = A) (e3 : postE A (undoP x y z u r) = 0) (e4 : postB A (undoP x y z u r) = l) (e5 : trV A = .tuple #[.int .i64 d, .int .i64 d, .bool true])
    (d0 : A.getD 0 0 - l.getD 0 0 = a) (d3 : l.getD 3 0 - A.getD 3 0 = x) (d2 : l.getD 2 0 - A.getD 2 0 = y) (d1 : l.getD 1 0 - A.getD 1 0 = z) (d4 : l.getD 4 0 - A.getD 4 0 = u) (d10 : l.getD 10 0 - A.getD 10 0 = r) :
    Calls Tryd.prog 7 #[.agg (bkL l).toArray, .agg (bkL [x, y, z, u, r]).toArray, .int .i64 a] w fun e w' => e = .returned (.bool true) ∧ Below w.heap.size w w' := by
  have EN : Hid (∀ w', Calls Tryd.prog 12 #[.agg (bkL [x, y, z, u, r]).toArray] w' fun e w2 => ∃ v, e = .returned v ∧ RowE w'.heap.size w2 v (entsP x y z u r) ∧ Below w'.heap.size w' w2) := fun w' => entries_at x y z u r w'
  have UN : Hid (∀ w', Calls Tryd.prog 14 #[.agg (bkL [x, y, z, u, r]).toArray] w' fun e w2 => ∃ v, e = .returned v ∧ RowE w'.heap.size w2 v (undoP x y z u r) ∧ Below w'.heap.size w' w2) := fun w' => undo_at x y z u r w'
  have P1 : Hid (∀ w' v', Below w.heap.size w w' → RdE w' v' (entsP x y z u r) → Calls Tryd.prog 11 #[.agg (bkL l).toArray, v'] w' fun e w2 => e = .returned (.tuple #[.agg (bkL A).toArray, .int .i64 0]) ∧ Below w'.heap.size w' w2) := fun w' v' hb h => by
    have := post_at l _ v' w' hl (ents_ok hx hy hz hu hr) (by have := entsP_len x y z u r; omega) h (hT.later hb)
    rwa [e1, e2] at this
  have P2 : Hid (∀ w' v', Below w.heap.size w w' → RdE w' v' (undoP x y z u r) → Calls Tryd.prog 11 #[.agg (bkL A).toArray, v'] w' fun e w2 => e = .returned (.tuple #[.agg (bkL l).toArray, .int .i64 0]) ∧ Below w'.heap.size w' w2) := fun w' v' hb h => by
    have := post_at A _ v' w' hA (undo_ok hx hy hz hu hr) (by have := entsP_len x y z u r; unfold undoP; rw [List.length_map]; omega) h (hT.later hb)
    rwa [e3, e4] at this
  have TR : Hid (∀ w', Calls Tryd.prog 13 #[.agg (bkL A).toArray] w' fun e w2 => e = .returned (.tuple #[.int .i64 d, .int .i64 d, .bool true]) ∧ Below w'.heap.size w' w2) := fun w' => by have := trial_at A w' hA; rwa [e5] at this
  have KP : Hid (KB w [(w.heap.size + 1, 27, bkL [x, y, z, u, r]), (w.heap.size, 34, bkL l)] ((w.alloc (.cells (bkL l).toArray 34)).alloc (.cells (bkL [x, y, z, u, r]).toArray 27))) := KB.two w _ _ _ _
  have LL : Hid (l.length = 12) := hl.1
  have LA : Hid (A.length = 12) := hA.1
  have CB : Hid (∀ (m : List Int) G w', m.length = 12 → Blk G 34 (bkL m) w' → ∀ k, k < 12 → w'.cell? ⟨G, k, none⟩ = some (.int .i64 (m.getD k 0))) := fun m G w' hm hb k hk => hb.cell k _ (bkL_at (by omega))
  have b0 := hl.2 0; have b1 := hl.2 1; have b2 := hl.2 2; have b3 := hl.2 3; have b4 := hl.2 4; have b10 := hl.2 10
  have g0 := hA.2 0; have g1 := hA.2 1; have g2 := hA.2 2; have g3 := hA.2 3; have g4 := hA.2 4; have g10 := hA.2 10
  unfold i64 at hx hy hz hu hr ha b0 b1 b2 b3 b4 b10 g0 g1 g2 g3 g4 g10
  clear e1 e2 e3 e4 e5 hl hA hT
  generalize hes : entsP x y z u r = es at *
  generalize hus : undoP x y z u r = us at *
  clear hes hus
  go_enter Tryd.func7, Tryd.ntmps7
  go_wp2_with fail
  go_cut [7, 8] from 15 to 21 (fun v7 v8 wx => ∃ G, v7 = .pointer (some ⟨G, 0, none⟩) ∧ v8 = .int .i64 0 ∧ KB w [(G, 34, bkL A), (w.heap.size + 1, 27, bkL [x, y, z, u, r]), (w.heap.size, 34, bkL l)] wx)
  case first =>
    generalize (w.alloc (.cells (bkL l).toArray 34)).alloc (.cells (bkL [x, y, z, u, r]).toArray 27) = w0 at *
    have hu := Tryd.underlying34
    have hv := Tryd.underlying27
    have hi : (Tryd.prog.info? 34).map (·.size) = some (bkL l).length := infoBl LL.out
    have hj : (Tryd.prog.info? 27).map (·.size) = some (bkL [x, y, z, u, r]).length := infoP
    refine wp_region_held_drew (S := fun w' => KB w [(w.heap.size + 1, 27, bkL [x, y, z, u, r]), (w.heap.size, 34, bkL l)] w') (by kernel_rfl) (KP.out.drewN 1) (fun hH => ?_)
    refine' wpAnyH_take (i := 0) (v := _) rfl (by kernel_rfl) (by kernel_rfl) (by kernel_rfl) (fun _ _ _ h => h) (yieldsIf_load_mid (by rfl) _ _ rfl _ _ rfl (bkL l) _ (fun w' h => (h.at 1 rfl).all) hu rfl hi) hH ?_
    simp only [Act.put]
    refine' wpAnyH_take (i := 1) (v := _) rfl (by kernel_rfl) (by kernel_rfl) (by kernel_rfl) (fun _ _ _ h => h) (yieldsIf_load_mid (by rfl) _ _ rfl _ _ rfl (bkL [x, y, z, u, r]) _ (fun w' h => (h.at 0 rfl).all) hv rfl hj) hH ?_
    simp only [Act.put]
    refine wpAnyH_ready (rs := [2, 7]) (by kernel_rfl) (by simp) ?_
    refine AllReadyH.cons rfl (fun K hK => ?_) (AllReadyH.cons rfl (fun K hK => ?_) AllReadyH.nil)
    · go_simp
      refine (EN.out _).mono ?_
      rintro e wa ⟨va, rfl, ra, ba⟩
      have RA := ra.rd
      refine hK.out _ _ (hH.call ba) (fun hH => ?_)
      refine wpAnyH_ready (rs := [3, 7]) (by kernel_rfl) (by simp) ?_
      refine AllReadyH.cons rfl (fun K hK => ?_) (AllReadyH.cons rfl (fun K hK => ?_) AllReadyH.nil)
      · go_simp
        refine (P1.out _ _ hH.bb RA).mono ?_
        rintro e wb ⟨rfl, bb⟩
        refine hK.out _ _ (hH.call bb) (fun hH => ?_)
        refine wpAnyH_take (i := 4) (v := .tuple #[.agg (bkL A).toArray, .int .i64 0]) rfl (by kernel_rfl) (by kernel_rfl) (by kernel_rfl) (fun _ _ _ h => h) (Or.inl ⟨by rfl, fun w' _ => by go_simp⟩) hH ?_
        refine wpAnyH_take (i := 5) (v := .agg (bkL A).toArray) rfl (by kernel_rfl) (by kernel_rfl) (by kernel_rfl) (fun _ _ _ h => h) (Or.inl ⟨by rfl, fun w' _ => by go_simp⟩) hH ?_
        refine wpAnyH_take (i := 6) (v := .int .i64 0) rfl (by kernel_rfl) (by kernel_rfl) (by kernel_rfl) (fun _ _ _ h => h) (Or.inl ⟨by rfl, fun w' _ => by go_simp⟩) hH ?_
        refine wpAnyH_ready (rs := [7]) (by kernel_rfl) (by simp) ?_
        refine AllReadyH.cons rfl (fun K hK => ?_) AllReadyH.nil
        go_simp
        have hN := Blk.new 34 (bkL z12) wb
        have hGl := hH.lt
        have hGw := hH.bb.size
        refine hK.out _ _ (hH.call (below_alloc _ _)) (fun hH => ?_)
        refine wpAnyH_ready (rs := [8]) (by kernel_rfl) (by simp) ?_
        refine AllReadyH.cons rfl (fun K hK => ?_) AllReadyH.nil
        refine op_putK hH (bkL A) (by rw [bkL_len, LA.out]; rfl) (infoBl LA.out) (bkL_one _) rfl _ _ rfl _ rfl rfl hN hGl hGw ?_
        intro wz kz hz
        refine hK.out _ _ hz (fun hH => ?_)
        refine wpAnyH_take (i := 9) (v := .int .i64 0) rfl (by kernel_rfl) (by kernel_rfl) (by kernel_rfl) (fun _ _ _ h => h) (Or.inl ⟨by rfl, fun w' _ => by go_simp⟩) hH ?_
        refine wpAnyH_done (by kernel_rfl) ?_ _
        have KZ : Hid (KB _ _ _) := kz
        clear kz hz hH hN hGl hGw hK
        go_wp2_with fail
        go_meet
        exact ⟨_, rfl, rfl, KZ.out⟩
      · go_simp
        have hN := Blk.new 34 (bkL z12) wa
        have hGl := hH.lt
        have hGw := hH.bb.size
        refine hK.out _ _ (hH.call (below_alloc _ _)) (fun hH => ?_)
        have RA := RA.later (below_alloc wa (.cells (bkL z12).toArray 34))
        refine wpAnyH_ready (rs := [3]) (by kernel_rfl) (by simp) ?_
        refine AllReadyH.cons rfl (fun K hK => ?_) AllReadyH.nil
        go_simp
        refine (P1.out _ _ hH.bb RA).mono ?_
        rintro e wb ⟨rfl, bb⟩
        refine hK.out _ _ (hH.call bb) (fun hH => ?_)
        have hN := hN.below bb
        refine wpAnyH_take (i := 4) (v := .tuple #[.agg (bkL A).toArray, .int .i64 0]) rfl (by kernel_rfl) (by kernel_rfl) (by kernel_rfl) (fun _ _ _ h => h) (Or.inl ⟨by rfl, fun w' _ => by go_simp⟩) hH ?_
        refine wpAnyH_take (i := 5) (v := .agg (bkL A).toArray) rfl (by kernel_rfl) (by kernel_rfl) (by kernel_rfl) (fun _ _ _ h => h) (Or.inl ⟨by rfl, fun w' _ => by go_simp⟩) hH ?_
        refine wpAnyH_take (i := 6) (v := .int .i64 0) rfl (by kernel_rfl) (by kernel_rfl) (by kernel_rfl) (fun _ _ _ h => h) (Or.inl ⟨by rfl, fun w' _ => by go_simp⟩) hH ?_
        refine wpAnyH_ready (rs := [8]) (by kernel_rfl) (by simp) ?_
        refine AllReadyH.cons rfl (fun K hK => ?_) AllReadyH.nil
        refine op_putK hH (bkL A) (by rw [bkL_len, LA.out]; rfl) (infoBl LA.out) (bkL_one _) rfl _ _ rfl _ rfl rfl hN hGl hGw ?_
        intro wz kz hz
        refine hK.out _ _ hz (fun hH => ?_)
        refine wpAnyH_take (i := 9) (v := .int .i64 0) rfl (by kernel_rfl) (by kernel_rfl) (by kernel_rfl) (fun _ _ _ h => h) (Or.inl ⟨by rfl, fun w' _ => by go_simp⟩) hH ?_
        refine wpAnyH_done (by kernel_rfl) ?_ _
        have KZ : Hid (KB _ _ _) := kz
        clear kz hz hH hN hGl hGw hK
        go_wp2_with fail
        go_meet
        exact ⟨_, rfl, rfl, KZ.out⟩
    · go_simp
      have hN := Blk.new 34 (bkL z12) w0.drew
      have hGl := hH.lt
      have hGw := hH.bb.size
      refine hK.out _ _ (hH.call (below_alloc _ _)) (fun hH => ?_)
      refine wpAnyH_ready (rs := [2]) (by kernel_rfl) (by simp) ?_
      refine AllReadyH.cons rfl (fun K hK => ?_) AllReadyH.nil
      go_simp
      refine (EN.out _).mono ?_
      rintro e wa ⟨va, rfl, ra, ba⟩
      have RA := ra.rd
      refine hK.out _ _ (hH.call ba) (fun hH => ?_)
      have hN := hN.below ba
      refine wpAnyH_ready (rs := [3]) (by kernel_rfl) (by simp) ?_
      refine AllReadyH.cons rfl (fun K hK => ?_) AllReadyH.nil
      go_simp
      refine (P1.out _ _ hH.bb RA).mono ?_
      rintro e wb ⟨rfl, bb⟩
      refine hK.out _ _ (hH.call bb) (fun hH => ?_)
      have hN := hN.below bb
      refine wpAnyH_take (i := 4) (v := .tuple #[.agg (bkL A).toArray, .int .i64 0]) rfl (by kernel_rfl) (by kernel_rfl) (by kernel_rfl) (fun _ _ _ h => h) (Or.inl ⟨by rfl, fun w' _ => by go_simp⟩) hH ?_
      refine wpAnyH_take (i := 5) (v := .agg (bkL A).toArray) rfl (by kernel_rfl) (by kernel_rfl) (by kernel_rfl) (fun _ _ _ h => h) (Or.inl ⟨by rfl, fun w' _ => by go_simp⟩) hH ?_
      refine wpAnyH_take (i := 6) (v := .int .i64 0) rfl (by kernel_rfl) (by kernel_rfl) (by kernel_rfl) (fun _ _ _ h => h) (Or.inl ⟨by rfl, fun w' _ => by go_simp⟩) hH ?_
      refine wpAnyH_ready (rs := [8]) (by kernel_rfl) (by simp) ?_
      refine AllReadyH.cons rfl (fun K hK => ?_) AllReadyH.nil
      refine op_putK hH (bkL A) (by rw [bkL_len, LA.out]; rfl) (infoBl LA.out) (bkL_one _) rfl _ _ rfl _ rfl rfl hN hGl hGw ?_
      intro wz kz hz
      refine hK.out _ _ hz (fun hH => ?_)
      refine wpAnyH_take (i := 9) (v := .int .i64 0) rfl (by kernel_rfl) (by kernel_rfl) (by kernel_rfl) (fun _ _ _ h => h) (Or.inl ⟨by rfl, fun w' _ => by go_simp⟩) hH ?_
      refine wpAnyH_done (by kernel_rfl) ?_ _
      have KZ : Hid (KB _ _ _) := kz
      clear kz hz hH hN hGl hGw hK
      go_wp2_with fail
      go_meet
      exact ⟨_, rfl, rfl, KZ.out⟩
  case rest =>
    clear KP EN P1
    obtain ⟨G, rfl, rfl, kp⟩ := hcut
    obtain ⟨w1, hw1⟩ : ∃ y, y = wc := ⟨_, rfl⟩
    subst hw1
    have KP : Hid (KB w [(G, 34, bkL A), (w.heap.size + 1, 27, bkL [x, y, z, u, r]), (w.heap.size, 34, bkL l)] w1) := kp
    have CL := fun k hk => CB.out l _ w1 LL.out (kp.at 2 rfl) k hk
    have CA := fun k hk => CB.out A _ w1 LA.out (kp.at 0 rfl) k hk
    have n0 := CL 0 (by omega); have n1 := CL 1 (by omega); have n2 := CL 2 (by omega); have n3 := CL 3 (by omega); have n4 := CL 4 (by omega); have n10 := CL 10 (by omega)
    have m0 := CA 0 (by omega); have m1 := CA 1 (by omega); have m2 := CA 2 (by omega); have m3 := CA 3 (by omega); have m4 := CA 4 (by omega); have m10 := CA 10 (by omega)
    have q0 := (kp.at 1 rfl).cell 0 _ rfl
    have q1 := (kp.at 1 rfl).cell 1 _ rfl
    have q2 := (kp.at 1 rfl).cell 2 _ rfl
    have q3 := (kp.at 1 rfl).cell 3 _ rfl
    have q4 := (kp.at 1 rfl).cell 4 _ rfl
    clear CL CA kp
    generalize l.getD 0 0 = l0 at *
    generalize l.getD 1 0 = l1 at *
    generalize l.getD 2 0 = l2 at *
    generalize l.getD 3 0 = l3 at *
    generalize l.getD 4 0 = l4 at *
    generalize l.getD 10 0 = l10 at *
    generalize A.getD 0 0 = a0 at *
    generalize A.getD 1 0 = a1 at *
    generalize A.getD 2 0 = a2 at *
    generalize A.getD 3 0 = a3 at *
    generalize A.getD 4 0 = a4 at *
    generalize A.getD 10 0 = a10 at *
    go_wp2_with (refine step_load rfl 34 _ rfl G 0 rfl (bkL A) _ (KP.out.at 0 rfl).all Tryd.underlying34 rfl (infoBl LA.out) ?_)
    clear n0 n1 n2 n3 n4 n10 m0 m1 m2 m3 m4 m10 q0 q1 q2 q3 q4 d0 d1 d2 d3 d4 d10 b0 b1 b2 b3 b4 b10 g0 g1 g2 g3 g4 g10
    refine (TR.out _).mono ?_
    rintro e w2 ⟨rfl, b2⟩
    have KP' : KB w [(G, 34, bkL A), (w.heap.size + 1, 27, bkL [x, y, z, u, r]), (w.heap.size, 34, bkL l)] w2 := KP.out.call b2
    clear KP TR b2
    have KP : Hid (KB w [(G, 34, bkL A), (w.heap.size + 1, 27, bkL [x, y, z, u, r]), (w.heap.size, 34, bkL l)] w2) := KP'
    clear KP'
    have ed : (d != d) = false := by simp
    go_wp2_with fail
    go_cut [12, 13] from 104 to 110 (fun v12 v13 wx => ∃ G', v12 = .pointer (some ⟨G', 0, none⟩) ∧ v13 = .int .i64 0 ∧ KB w [(G', 34, bkL l), (G, 34, bkL A), (w.heap.size + 1, 27, bkL [x, y, z, u, r]), (w.heap.size, 34, bkL l)] wx)
    case first =>
      have hu := Tryd.underlying34
      have hv := Tryd.underlying27
      have hi : (Tryd.prog.info? 34).map (·.size) = some (bkL A).length := infoBl LA.out
      have hj : (Tryd.prog.info? 27).map (·.size) = some (bkL [x, y, z, u, r]).length := infoP
      refine wp_region_held_drew (S := fun w' => KB w [(G, 34, bkL A), (w.heap.size + 1, 27, bkL [x, y, z, u, r]), (w.heap.size, 34, bkL l)] w') (by kernel_rfl) (KP.out.drewN 1) (fun hH => ?_)
      refine' wpAnyH_take (i := 0) (v := _) rfl (by kernel_rfl) (by kernel_rfl) (by kernel_rfl) (fun _ _ _ h => h) (yieldsIf_load_mid (by rfl) _ _ rfl _ _ rfl (bkL A) _ (fun w' h => (h.at 0 rfl).all) hu rfl hi) hH ?_
      simp only [Act.put]
      refine' wpAnyH_take (i := 1) (v := _) rfl (by kernel_rfl) (by kernel_rfl) (by kernel_rfl) (fun _ _ _ h => h) (yieldsIf_load_mid (by rfl) _ _ rfl _ _ rfl (bkL [x, y, z, u, r]) _ (fun w' h => (h.at 1 rfl).all) hv rfl hj) hH ?_
      simp only [Act.put]
      refine wpAnyH_ready (rs := [2, 7]) (by kernel_rfl) (by simp) ?_
      refine AllReadyH.cons rfl (fun K hK => ?_) (AllReadyH.cons rfl (fun K hK => ?_) AllReadyH.nil)
      · go_simp
        refine (UN.out _).mono ?_
        rintro e wa ⟨va, rfl, ra, ba⟩
        have RA := ra.rd
        refine hK.out _ _ (hH.call ba) (fun hH => ?_)
        refine wpAnyH_ready (rs := [3, 7]) (by kernel_rfl) (by simp) ?_
        refine AllReadyH.cons rfl (fun K hK => ?_) (AllReadyH.cons rfl (fun K hK => ?_) AllReadyH.nil)
        · go_simp
          refine (P2.out _ _ hH.bb RA).mono ?_
          rintro e wb ⟨rfl, bb⟩
          refine hK.out _ _ (hH.call bb) (fun hH => ?_)
          refine wpAnyH_take (i := 4) (v := .tuple #[.agg (bkL l).toArray, .int .i64 0]) rfl (by kernel_rfl) (by kernel_rfl) (by kernel_rfl) (fun _ _ _ h => h) (Or.inl ⟨by rfl, fun w' _ => by go_simp⟩) hH ?_
          refine wpAnyH_take (i := 5) (v := .agg (bkL l).toArray) rfl (by kernel_rfl) (by kernel_rfl) (by kernel_rfl) (fun _ _ _ h => h) (Or.inl ⟨by rfl, fun w' _ => by go_simp⟩) hH ?_
          refine wpAnyH_take (i := 6) (v := .int .i64 0) rfl (by kernel_rfl) (by kernel_rfl) (by kernel_rfl) (fun _ _ _ h => h) (Or.inl ⟨by rfl, fun w' _ => by go_simp⟩) hH ?_
          refine wpAnyH_ready (rs := [7]) (by kernel_rfl) (by simp) ?_
          refine AllReadyH.cons rfl (fun K hK => ?_) AllReadyH.nil
          go_simp
          have hN := Blk.new 34 (bkL z12) wb
          have hGl := hH.lt
          have hGw := hH.bb.size
          refine hK.out _ _ (hH.call (below_alloc _ _)) (fun hH => ?_)
          refine wpAnyH_ready (rs := [8]) (by kernel_rfl) (by simp) ?_
          refine AllReadyH.cons rfl (fun K hK => ?_) AllReadyH.nil
          refine op_putK hH (bkL l) (by rw [bkL_len, LL.out]; rfl) (infoBl LL.out) (bkL_one _) rfl _ _ rfl _ rfl rfl hN hGl hGw ?_
          intro wz kz hz
          refine hK.out _ _ hz (fun hH => ?_)
          refine wpAnyH_take (i := 9) (v := .int .i64 0) rfl (by kernel_rfl) (by kernel_rfl) (by kernel_rfl) (fun _ _ _ h => h) (Or.inl ⟨by rfl, fun w' _ => by go_simp⟩) hH ?_
          refine wpAnyH_done (by kernel_rfl) ?_ _
          have KZ : Hid (KB _ _ _) := kz
          clear kz hz hH hN hGl hGw hK
          go_wp2_with fail
          go_meet
          exact ⟨_, rfl, rfl, KZ.out⟩
        · go_simp
          have hN := Blk.new 34 (bkL z12) wa
          have hGl := hH.lt
          have hGw := hH.bb.size
          refine hK.out _ _ (hH.call (below_alloc _ _)) (fun hH => ?_)
          have RA := RA.later (below_alloc wa (.cells (bkL z12).toArray 34))
          refine wpAnyH_ready (rs := [3]) (by kernel_rfl) (by simp) ?_
          refine AllReadyH.cons rfl (fun K hK => ?_) AllReadyH.nil
          go_simp
          refine (P2.out _ _ hH.bb RA).mono ?_
          rintro e wb ⟨rfl, bb⟩
          refine hK.out _ _ (hH.call bb) (fun hH => ?_)
          have hN := hN.below bb
          refine wpAnyH_take (i := 4) (v := .tuple #[.agg (bkL l).toArray, .int .i64 0]) rfl (by kernel_rfl) (by kernel_rfl) (by kernel_rfl) (fun _ _ _ h => h) (Or.inl ⟨by rfl, fun w' _ => by go_simp⟩) hH ?_
          refine wpAnyH_take (i := 5) (v := .agg (bkL l).toArray) rfl (by kernel_rfl) (by kernel_rfl) (by kernel_rfl) (fun _ _ _ h => h) (Or.inl ⟨by rfl, fun w' _ => by go_simp⟩) hH ?_
          refine wpAnyH_take (i := 6) (v := .int .i64 0) rfl (by kernel_rfl) (by kernel_rfl) (by kernel_rfl) (fun _ _ _ h => h) (Or.inl ⟨by rfl, fun w' _ => by go_simp⟩) hH ?_
          refine wpAnyH_ready (rs := [8]) (by kernel_rfl) (by simp) ?_
          refine AllReadyH.cons rfl (fun K hK => ?_) AllReadyH.nil
          refine op_putK hH (bkL l) (by rw [bkL_len, LL.out]; rfl) (infoBl LL.out) (bkL_one _) rfl _ _ rfl _ rfl rfl hN hGl hGw ?_
          intro wz kz hz
          refine hK.out _ _ hz (fun hH => ?_)
          refine wpAnyH_take (i := 9) (v := .int .i64 0) rfl (by kernel_rfl) (by kernel_rfl) (by kernel_rfl) (fun _ _ _ h => h) (Or.inl ⟨by rfl, fun w' _ => by go_simp⟩) hH ?_
          refine wpAnyH_done (by kernel_rfl) ?_ _
          have KZ : Hid (KB _ _ _) := kz
          clear kz hz hH hN hGl hGw hK
          go_wp2_with fail
          go_meet
          exact ⟨_, rfl, rfl, KZ.out⟩
      · go_simp
        have hN := Blk.new 34 (bkL z12) w2.drew
        have hGl := hH.lt
        have hGw := hH.bb.size
        refine hK.out _ _ (hH.call (below_alloc _ _)) (fun hH => ?_)
        refine wpAnyH_ready (rs := [2]) (by kernel_rfl) (by simp) ?_
        refine AllReadyH.cons rfl (fun K hK => ?_) AllReadyH.nil
        go_simp
        refine (UN.out _).mono ?_
        rintro e wa ⟨va, rfl, ra, ba⟩
        have RA := ra.rd
        refine hK.out _ _ (hH.call ba) (fun hH => ?_)
        have hN := hN.below ba
        refine wpAnyH_ready (rs := [3]) (by kernel_rfl) (by simp) ?_
        refine AllReadyH.cons rfl (fun K hK => ?_) AllReadyH.nil
        go_simp
        refine (P2.out _ _ hH.bb RA).mono ?_
        rintro e wb ⟨rfl, bb⟩
        refine hK.out _ _ (hH.call bb) (fun hH => ?_)
        have hN := hN.below bb
        refine wpAnyH_take (i := 4) (v := .tuple #[.agg (bkL l).toArray, .int .i64 0]) rfl (by kernel_rfl) (by kernel_rfl) (by kernel_rfl) (fun _ _ _ h => h) (Or.inl ⟨by rfl, fun w' _ => by go_simp⟩) hH ?_
        refine wpAnyH_take (i := 5) (v := .agg (bkL l).toArray) rfl (by kernel_rfl) (by kernel_rfl) (by kernel_rfl) (fun _ _ _ h => h) (Or.inl ⟨by rfl, fun w' _ => by go_simp⟩) hH ?_
        refine wpAnyH_take (i := 6) (v := .int .i64 0) rfl (by kernel_rfl) (by kernel_rfl) (by kernel_rfl) (fun _ _ _ h => h) (Or.inl ⟨by rfl, fun w' _ => by go_simp⟩) hH ?_
        refine wpAnyH_ready (rs := [8]) (by kernel_rfl) (by simp) ?_
        refine AllReadyH.cons rfl (fun K hK => ?_) AllReadyH.nil
        refine op_putK hH (bkL l) (by rw [bkL_len, LL.out]; rfl) (infoBl LL.out) (bkL_one _) rfl _ _ rfl _ rfl rfl hN hGl hGw ?_
        intro wz kz hz
        refine hK.out _ _ hz (fun hH => ?_)
        refine wpAnyH_take (i := 9) (v := .int .i64 0) rfl (by kernel_rfl) (by kernel_rfl) (by kernel_rfl) (fun _ _ _ h => h) (Or.inl ⟨by rfl, fun w' _ => by go_simp⟩) hH ?_
        refine wpAnyH_done (by kernel_rfl) ?_ _
        have KZ : Hid (KB _ _ _) := kz
        clear kz hz hH hN hGl hGw hK
        go_wp2_with fail
        go_meet
        exact ⟨_, rfl, rfl, KZ.out⟩
    case rest =>
      clear KP UN P2
      obtain ⟨G', rfl, rfl, kp⟩ := hcut
      obtain ⟨w3, hw3⟩ : ∃ y, y = wc := ⟨_, rfl⟩
      subst hw3
      have BB : Hid (Below w.heap.size w w3) := kp.bb
      have CE : Hid (∀ k : Nat, k < 12 → w3.cell? ⟨G', k, none⟩ = some (.int .i64 (l.getD k 0)) ∧ w3.cell? ⟨w.heap.size, k, none⟩ = some (.int .i64 (l.getD k 0))) := fun k hk => ⟨CB.out l _ w3 LL.out (kp.at 0 rfl) k hk, CB.out l _ w3 LL.out (kp.at 3 rfl) k hk⟩
      clear kp CB LL LA
      go_wp2_with fail
      go_loopw [14] (fun vk wr => ∃ k m : Nat, vk = .int .i64 (k : Int) ∧ k ≤ 12 ∧ wr = w3.drewN m) (fun vk _ => 12 - (intOf vk).toNat)
      case atStart => exact ⟨0, 0, rfl, by omega, rfl⟩
      case round =>
        obtain ⟨k, m, rfl, hk, rfl⟩ := hrel
        by_cases hlt : (k : Int) < 12
        · obtain ⟨c0, c1⟩ := CE.out k (by omega)
          have i0 : (0 : Int) ≤ (k : Int) := by omega
          generalize l.getD k 0 = q at *
          have e1 : (q != q) = false := by simp
          go_wp2_with fail
          go_quiet (fail)
          go_wp2_with fail
          go_roundw
          case rel => exact ⟨k + 1, m + nq, by go_num, by omega, by simp⟩
          case measure => simp [intOf]; omega
        · obtain rfl : k = 12 := by omega
          go_wp2_with fail
          go_ret
          exact ⟨rfl, below_drewN BB.out m⟩
end Go.Proofs.YtplebplpachgiabDoor
