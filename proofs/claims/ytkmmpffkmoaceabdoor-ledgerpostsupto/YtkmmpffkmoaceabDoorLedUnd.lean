/-
  Ours: the Reverse takes a posting back: LedgerUndoes.
-/
import Derived.Test.YtkmmpffkmoaceabDoorLedKept
import Derived.Test.YtkmmpffkmoaceabDoorLedPure
import Derived.Test.YtkmmpffkmoaceabDoorLedRev
import Derived.Deep.CutRange
namespace Go.Proofs.YtkmmpffkmoaceabDoor
open Go.RowKit LedM

namespace LedM
theorem entE_swap (e : Ent) : entE (swapE e) = entE e := by
  have a : (e.c == e.d) = (e.d == e.c) := by cases h : e.d == e.c <;> simp at h ⊢ <;> omega
  unfold entE swapE
  simp only [a]
  cases isA e.c <;> cases isA e.d <;> rfl
theorem mem_revE {es : List Ent} {e : Ent} (h : e ∈ revE es) : ∃ x ∈ es, e = swapE x := by
  unfold revE at h
  rw [List.mem_reverse] at h
  obtain ⟨x, hx, rfl⟩ := List.mem_map.1 h
  exact ⟨x, hx, rfl⟩
theorem fault_rev {es : List Ent} (h : faultE es = 0) : faultE (revE es) = 0 := fault_all fun e he => by
  obtain ⟨x, hx, rfl⟩ := mem_revE he
  rw [entE_swap]; exact fault_zero h x hx
theorem ok_rev {es : List Ent} (h : ∀ e ∈ es, EntOk e) : ∀ e ∈ revE es, EntOk e := fun e he => by
  obtain ⟨x, hx, rfl⟩ := mem_revE he
  have := h x hx
  exact ⟨this.2.1, this.1, this.2.2⟩
theorem mv_rev : ∀ (es : List Ent) (j : Int), mv (revE es) j = -mv es j
  | [], j => rfl
  | e :: r, j => by
    have e1 : revE (e :: r) = revE r ++ [swapE e] := by simp [revE]
    have e2 : mv (e :: r) j = mv1 e j + mv r j := rfl
    rw [e1, mv_push, mv_rev r j, e2]
    unfold mv1 swapE
    simp only
    omega
theorem moved_nil (l : List Int) (h : l.length = 12) : moved l [] = l := ext12 (moved_len _ _) h (fun j hj => by rw [moved_at _ _ j hj]; simp [mv, total])
theorem moved_rev (l : List Int) (es : List Ent) (h : l.length = 12) : moved (moved l es) (revE es) = l := by
  rw [moved_moved]
  exact ext12 (moved_len _ _) h (fun j hj => by rw [moved_at _ _ j hj, mv_append, mv_rev]; omega)
theorem post_undo {l : List Int} {es : List Ent} (hl : l.length = 12) (h0 : postE l [] = 0) (h1 : postE l es = 0) : postE (postB l es) (revE es) = 0 ∧ postB (postB l es) (revE es) = l := by
  rw [postB_zero h1]
  obtain ⟨_, a, b, c⟩ := postE_zero.1 h0
  rw [moved_nil l hl] at a b c
  have z : postE (moved l es) (revE es) = 0 := postE_zero.2 ⟨fault_rev (es := es) (postE_zero.1 h1).1, by rw [moved_rev l es hl]; exact a, by rw [moved_rev l es hl]; exact b, by rw [moved_rev l es hl]; exact c⟩
  exact ⟨z, by rw [postB_zero z, moved_rev l es hl]⟩
end LedM
theorem op_put {ops : Array Oper} {op : Oper} {a : Act} {w wr : World} {K : Act → World → Prop} {Q : Exit → Act → World → Prop} {E : Prop} {bs : List (Nat × List Int)} (hK : Kept w bs wr) (l : List Int) (hl : l.length = 12) (hgd : op.guard = Option.none) (x y : Operand) (ho : op.op = .store 24 x y)
    (G : Nat) (hx : a.eval x = .pointer (some ⟨G, 0, Option.none⟩)) (hy : a.eval y = .agg (bkL l).toArray) (hb : Blk G 24 (bkL zeroL) wr) (hG : ∀ p ∈ bs, p.1 < G) (hw : w.heap.size ≤ G)
    (h : ∀ w', Kept w ((G, l) :: bs) w' → Kept w bs w' → K (a.put op.dst undef) w') : if Region.wanted op (yielded ops a.tmps) = true then Oper.wp Tryd.prog op a wr K Q else E := by
  have hwd : Region.wanted op (yielded ops a.tmps) = true := by simp [Region.wanted, hgd]
  rw [if_pos hwd]
  unfold Oper.wp execOp
  simp only [ho, hx, hy, Instr.storeAt, Instr.sureAddr, Sem.run_bind, Sem.run_pure, Result.andThen_ok, run_storeVar_blk wr G 0 24 24 (bkL zeroL) (bkL l) hb (by rw [bkL_len, hl]; exact Nat.le_refl _) (infoBl hl) (bkL_one _)]
  have nb := setRow_heap wr G _ ((bkL zeroL).take 0 ++ bkL l ++ (bkL zeroL).drop (0 + (bkL l).length)).toArray 24 _ hb
  have g := setRow_grown wr G ((bkL zeroL).take 0 ++ bkL l ++ (bkL zeroL).drop (0 + (bkL l).length)).toArray
  have hG2 := hK.grown g (fun g' e => by cases e; exact ⟨hw, hG⟩)
  refine h _ ⟨hG2.bb, fun p hp => ?_⟩ hG2
  rcases List.mem_cons.1 hp with rfl | hp
  · exact ⟨hw, hl, by rw [store_all (by rw [bkL_len, hl]; rfl)] at nb ⊢; exact nb⟩
  · exact hG2.bk p hp
theorem RdE.none (w : World) : RdE w (.slice none 0 0) [] := ⟨Option.none, 0, rfl, Nat.le_refl _, fun _ => rfl, fun i hi => by simp at hi⟩

set_option maxRecDepth 20000 in
set_option maxHeartbeats 2000000 in
theorem undoes_any (l : List Int) (es : List Ent) (v : Value) (w : World) (hl : BkOk l) (h : RdE w v es) (ok : ∀ e ∈ es, EntOk e) (hn : es.length ≤ 1048576) (hT : TabD w) :
    Calls Tryd.prog 4 #[.agg (bkL l).toArray, v] w fun e w' => e = .returned (.bool true) ∧ Below w.heap.size w w' := by
  have KP : Hid (Kept w [(w.heap.size, l)] (w.alloc (.cells (bkL l).toArray 24))) := Kept.first w l hl.1
  have RV : Hid (∀ w' v' fs, RdE w' v' fs → fs.length ≤ 1048576 → Calls Tryd.prog 12 #[v'] w' fun e w2 => ∃ v2, e = .returned v2 ∧ RowE w'.heap.size w2 v2 (revE fs) ∧ Below w'.heap.size w' w2) := fun w' v' fs hr h => rev_at fs v' w' (by omega) hr
  have AL : Hid (∀ w' va vb, RdE w' va es → RdE w' vb es → Calls Tryd.prog 13 #[va, vb] w' fun e w2 => e = .returned (.bool true) ∧ Below w'.heap.size w' w2) := fun w' va vb h1 h2 => (alike_yes es va vb w' (by omega) h1 h2).mono fun e w2 ⟨a, n, b⟩ => ⟨a, by rw [b]; exact below_drewN (Below.refl _ _) n⟩
  have PS : Hid (∀ w', Below w.heap.size w w' → Calls Tryd.prog 11 #[] w' fun e w2 => e = .returned (.bool true) ∧ Below w'.heap.size w' w2) := fun w' hb => posts_at w' (hT.later hb)
  have P0 : Hid (∀ w', Below w.heap.size w w' → Calls Tryd.prog 8 #[.agg (bkL l).toArray, .slice none 0 0] w' fun e w2 => e = .returned (.tuple #[.agg (bkL (postB l [])).toArray, .int .i64 (postE l [])]) ∧ Below w'.heap.size w' w2) := fun w' hb => post_at l [] _ w' hl (fun e he => by cases he) (by simp) (RdE.none w') (hT.later hb)
  have P1 : Hid (∀ w', Below w.heap.size w w' → Calls Tryd.prog 8 #[.agg (bkL l).toArray, v] w' fun e w2 => e = .returned (.tuple #[.agg (bkL (postB l es)).toArray, .int .i64 (postE l es)]) ∧ Below w'.heap.size w' w2) := fun w' hb => post_at l es v w' hl ok (by omega) (h.later hb) (hT.later hb)
  have O1 : BkOk (postB l es) := postB_ok hl
  have P2 : Hid (∀ w' v', Below w.heap.size w w' → RdE w' v' (revE es) → Calls Tryd.prog 8 #[.agg (bkL (postB l es)).toArray, v'] w' fun e w2 => e = .returned (.tuple #[.agg (bkL (postB (postB l es) (revE es))).toArray, .int .i64 (postE (postB l es) (revE es))]) ∧ Below w'.heap.size w' w2) := fun w' v' hb hr => post_at _ _ v' w' O1 (ok_rev ok) (by rw [revE_len]; omega) hr (hT.later hb)
  have PU : Hid (postE l [] = 0 → postE l es = 0 → postE (postB l es) (revE es) = 0 ∧ postB (postB l es) (revE es) = l) := fun a b => post_undo hl.1 a b
  have SM : Hid (∀ (w' : World), Calls Tryd.prog 9 #[.agg (bkL l).toArray, .agg (bkL l).toArray] w' fun e w2 => e = .returned (.bool true) ∧ Below w'.heap.size w' w2) := fun w' => by have := same_at l l w' hl.1 hl.1; rwa [decide_eq_true rfl] at this
  have RD : Hid (∀ w', Below w.heap.size w w' → RdE w' v es) := fun w' hb => h.later hb
  have L0 : Hid ((postB l []).length = 12) := (postB_ok hl).1
  have L1 : Hid ((postB l es).length = 12) := O1.1
  have LL : Hid (l.length = 12) := hl.1
  have NN : Hid (es.length ≤ 1048576 ∧ (revE es).length ≤ 1048576 ∧ revE (revE es) = es) := ⟨hn, by rw [revE_len]; exact hn, revE_revE es⟩
  clear hl h ok hn hT O1
  generalize postB (postB l es) (revE es) = dd at *
  generalize postE (postB l es) (revE es) = E2 at *
  generalize postB l es = cc at *
  generalize postE l es = E1 at *
  generalize postB l [] = bz at *
  generalize postE l [] = E0 at *
  go_enter Tryd.func4, Tryd.ntmps4
  go_wp2_with fail
  refine (RV.out _ _ es (RD.out _ KP.out.bb) NN.out.1).mono ?_
  rintro e w1 ⟨v1, rfl, r1, b1⟩
  have KP' : Kept w _ w1 := KP.out.call b1
  clear KP
  have KP : Hid (Kept w [(w.heap.size, l)] w1) := KP'
  have R1 : Hid (RdE w1 v1 (revE es)) := r1.rd
  clear KP' b1 r1
  go_wp2_with fail
  refine (RV.out _ _ (revE es) R1.out NN.out.2.1).mono ?_
  rintro e w2 ⟨v2, rfl, r2, b2⟩
  have KP' : Kept w _ w2 := KP.out.call b2
  clear KP
  have KP : Hid (Kept w [(w.heap.size, l)] w2) := KP'
  have R2 : Hid (RdE w2 v2 es) := by have := r2.rd; rwa [NN.out.2.2] at this
  clear KP' b2 r2 R1
  go_wp2_with fail
  refine (AL.out _ _ _ R2.out (RD.out _ KP.out.bb)).mono ?_
  rintro e w3 ⟨rfl, b3⟩
  have KP' : Kept w _ w3 := KP.out.call b3
  clear KP
  have KP : Hid (Kept w [(w.heap.size, l)] w3) := KP'
  clear KP' b3 R2 AL
  go_wp2_with fail
  refine (PS.out _ KP.out.bb).mono ?_
  rintro e w4 ⟨rfl, bw4⟩
  have KP' : Kept _ _ w4 := KP.out.call bw4
  clear KP bw4
  have KP : Hid (Kept _ _ w4) := KP'
  clear KP'
  go_wp2_with (first
  | (refine step_get KP.out 0 rfl rfl _ rfl rfl ?_))
  refine (P0.out _ KP.out.bb).mono ?_
  rintro e w5 ⟨rfl, bw5⟩
  have KP' : Kept _ _ w5 := KP.out.call bw5
  clear KP bw5
  have KP : Hid (Kept _ _ w5) := KP'
  clear KP'
  clear P0 PS
  go_wp2_with (first
  | (refine step_put KP.out bz L0.out rfl _ _ rfl rfl rfl ?_; clear KP; intro w6 KP'; intro _; have KP : Hid (Kept _ _ _) := KP'; clear KP')
  | (refine step_get KP.out 0 rfl rfl _ rfl rfl ?_)
  | (refine step_get KP.out 1 rfl rfl _ rfl rfl ?_))
  refine (P1.out _ KP.out.bb).mono ?_
  rintro e w7 ⟨rfl, bw7⟩
  have KP' : Kept _ _ w7 := KP.out.call bw7
  clear KP bw7
  have KP : Hid (Kept _ _ w7) := KP'
  clear KP'
  clear P1
  by_cases z0 : E0 = 0
  · subst z0
    by_cases z1 : E1 = 0
    · subst z1
      obtain ⟨z2, zb⟩ := PU.out (by first | rfl | trivial) (by first | rfl | trivial)
      subst z2 zb
      clear PU
      go_upto_region 8 with (first
  | (refine step_put KP.out cc L1.out rfl _ _ rfl rfl rfl ?_; clear KP; intro w8 KP'; intro _; have KP : Hid (Kept _ _ _) := KP'; clear KP')
  | (refine step_get KP.out 0 rfl rfl _ rfl rfl ?_)
  | (refine step_get KP.out 1 rfl rfl _ rfl rfl ?_))
      go_cut [10, 11] from 40 to 53 (fun v10 v11 wx => ∃ G, v10 = .pointer (some ⟨G, 0, none⟩) ∧ v11 = .int .i64 0 ∧ Kept w [(G, dd), (w7.heap.size, cc), (w5.heap.size, bz), (w.heap.size, dd)] wx)
      case first =>
        have hu := Tryd.underlying24
        have hi : (Tryd.prog.info? 24).map (·.size) = some (bkL cc).length := infoBl L1.out
        refine wp_region_held_drew (S := fun w' => Kept w [(w7.heap.size, cc), (w5.heap.size, bz), (w.heap.size, dd)] w') (by kernel_rfl) (KP.out.drewN 1) (fun hH => ?_)
        refine' wpAnyH_take (i := 0) (v := _) rfl (by kernel_rfl) (by kernel_rfl) (by kernel_rfl) (fun _ _ _ h => h) (yieldsIf_load_mid (by rfl) _ _ rfl _ _ rfl (bkL cc) _ (fun w' h => (h.at 0 rfl).2.all) hu rfl hi) hH ?_
        simp only [Act.put]
        refine wpAnyH_take (i := 1) (v := v) rfl (by kernel_rfl) (by kernel_rfl) (by kernel_rfl) (fun _ _ _ h => h) (Or.inl ⟨by rfl, fun w' _ => by go_simp⟩) hH ?_
        simp only [Act.put]
        refine wpAnyH_ready (rs := [2, 7]) (by kernel_rfl) (by simp) ?_
        refine AllReadyH.cons rfl (fun K hK => ?_) (AllReadyH.cons rfl (fun K hK => ?_) AllReadyH.nil)
        · go_simp
          refine (RV.out _ _ es (RD.out _ hH.bb) NN.out.1).mono ?_
          rintro e wa ⟨va, rfl, ra, ba⟩
          have RA := ra.rd
          refine hK.out _ _ (hH.call ba) (fun hH => ?_)
          refine wpAnyH_ready (rs := [3, 7]) (by kernel_rfl) (by simp) ?_
          refine AllReadyH.cons rfl (fun K hK => ?_) (AllReadyH.cons rfl (fun K hK => ?_) AllReadyH.nil)
          · go_simp
            refine (P2.out _ _ hH.bb RA).mono ?_
            rintro e wb ⟨rfl, bb⟩
            refine hK.out _ _ (hH.call bb) (fun hH => ?_)
            refine wpAnyH_take (i := 4) (v := .tuple #[.agg (bkL dd).toArray, .int .i64 0]) rfl (by kernel_rfl) (by kernel_rfl) (by kernel_rfl) (fun _ _ _ h => h) (Or.inl ⟨by rfl, fun w' _ => by go_simp⟩) hH ?_
            refine wpAnyH_take (i := 5) (v := .agg (bkL dd).toArray) rfl (by kernel_rfl) (by kernel_rfl) (by kernel_rfl) (fun _ _ _ h => h) (Or.inl ⟨by rfl, fun w' _ => by go_simp⟩) hH ?_
            refine wpAnyH_take (i := 6) (v := .int .i64 0) rfl (by kernel_rfl) (by kernel_rfl) (by kernel_rfl) (fun _ _ _ h => h) (Or.inl ⟨by rfl, fun w' _ => by go_simp⟩) hH ?_
            refine wpAnyH_ready (rs := [7]) (by kernel_rfl) (by simp) ?_
            refine AllReadyH.cons rfl (fun K hK => ?_) AllReadyH.nil
            go_simp
            have hN := Blk.new 24 (bkL zeroL) wb
            have hGl := hH.lt
            have hGw := hH.bb.size
            refine hK.out _ _ (hH.alloc _) (fun hH => ?_)
            refine wpAnyH_ready (rs := [8]) (by kernel_rfl) (by simp) ?_
            refine AllReadyH.cons rfl (fun K hK => ?_) AllReadyH.nil
            refine op_put hH dd LL.out rfl _ _ rfl _ rfl rfl hN hGl hGw ?_
            intro wz kz hz
            refine hK.out _ _ hz (fun hH => ?_)
            refine wpAnyH_take (i := 9) (v := .int .i64 0) rfl (by kernel_rfl) (by kernel_rfl) (by kernel_rfl) (fun _ _ _ h => h) (Or.inl ⟨by rfl, fun w' _ => by go_simp⟩) hH ?_
            refine wpAnyH_done (by kernel_rfl) ?_ _
            have KZ : Hid (Kept _ _ _) := kz
            clear kz hz hH hN hGl hGw hK
            go_wp2_with fail
            go_meet
            exact ⟨_, rfl, rfl, KZ.out⟩
          · go_simp
            have hN := Blk.new 24 (bkL zeroL) wa
            have hGl := hH.lt
            have hGw := hH.bb.size
            refine hK.out _ _ (hH.alloc _) (fun hH => ?_)
            have RA := RA.later (below_alloc wa (.cells (bkL zeroL).toArray 24))
            refine wpAnyH_ready (rs := [3]) (by kernel_rfl) (by simp) ?_
            refine AllReadyH.cons rfl (fun K hK => ?_) AllReadyH.nil
            go_simp
            refine (P2.out _ _ hH.bb RA).mono ?_
            rintro e wb ⟨rfl, bb⟩
            refine hK.out _ _ (hH.call bb) (fun hH => ?_)
            have hN := hN.below bb
            refine wpAnyH_take (i := 4) (v := .tuple #[.agg (bkL dd).toArray, .int .i64 0]) rfl (by kernel_rfl) (by kernel_rfl) (by kernel_rfl) (fun _ _ _ h => h) (Or.inl ⟨by rfl, fun w' _ => by go_simp⟩) hH ?_
            refine wpAnyH_take (i := 5) (v := .agg (bkL dd).toArray) rfl (by kernel_rfl) (by kernel_rfl) (by kernel_rfl) (fun _ _ _ h => h) (Or.inl ⟨by rfl, fun w' _ => by go_simp⟩) hH ?_
            refine wpAnyH_take (i := 6) (v := .int .i64 0) rfl (by kernel_rfl) (by kernel_rfl) (by kernel_rfl) (fun _ _ _ h => h) (Or.inl ⟨by rfl, fun w' _ => by go_simp⟩) hH ?_
            refine wpAnyH_ready (rs := [8]) (by kernel_rfl) (by simp) ?_
            refine AllReadyH.cons rfl (fun K hK => ?_) AllReadyH.nil
            refine op_put hH dd LL.out rfl _ _ rfl _ rfl rfl hN hGl hGw ?_
            intro wz kz hz
            refine hK.out _ _ hz (fun hH => ?_)
            refine wpAnyH_take (i := 9) (v := .int .i64 0) rfl (by kernel_rfl) (by kernel_rfl) (by kernel_rfl) (fun _ _ _ h => h) (Or.inl ⟨by rfl, fun w' _ => by go_simp⟩) hH ?_
            refine wpAnyH_done (by kernel_rfl) ?_ _
            have KZ : Hid (Kept _ _ _) := kz
            clear kz hz hH hN hGl hGw hK
            go_wp2_with fail
            go_meet
            exact ⟨_, rfl, rfl, KZ.out⟩
        · go_simp
          have hN := Blk.new 24 (bkL zeroL) w8.drew
          have hGl := hH.lt
          have hGw := hH.bb.size
          refine hK.out _ _ (hH.alloc _) (fun hH => ?_)
          refine wpAnyH_ready (rs := [2]) (by kernel_rfl) (by simp) ?_
          refine AllReadyH.cons rfl (fun K hK => ?_) AllReadyH.nil
          go_simp
          refine (RV.out _ _ es (RD.out _ hH.bb) NN.out.1).mono ?_
          rintro e wa ⟨va, rfl, ra, ba⟩
          have RA := ra.rd
          refine hK.out _ _ (hH.call ba) (fun hH => ?_)
          have hN := hN.below ba
          refine wpAnyH_ready (rs := [3]) (by kernel_rfl) (by simp) ?_
          refine AllReadyH.cons rfl (fun K hK => ?_) AllReadyH.nil
          go_simp
          refine (P2.out _ _ hH.bb RA).mono ?_
          rintro e wb ⟨rfl, bb⟩
          refine hK.out _ _ (hH.call bb) (fun hH => ?_)
          have hN := hN.below bb
          refine wpAnyH_take (i := 4) (v := .tuple #[.agg (bkL dd).toArray, .int .i64 0]) rfl (by kernel_rfl) (by kernel_rfl) (by kernel_rfl) (fun _ _ _ h => h) (Or.inl ⟨by rfl, fun w' _ => by go_simp⟩) hH ?_
          refine wpAnyH_take (i := 5) (v := .agg (bkL dd).toArray) rfl (by kernel_rfl) (by kernel_rfl) (by kernel_rfl) (fun _ _ _ h => h) (Or.inl ⟨by rfl, fun w' _ => by go_simp⟩) hH ?_
          refine wpAnyH_take (i := 6) (v := .int .i64 0) rfl (by kernel_rfl) (by kernel_rfl) (by kernel_rfl) (fun _ _ _ h => h) (Or.inl ⟨by rfl, fun w' _ => by go_simp⟩) hH ?_
          refine wpAnyH_ready (rs := [8]) (by kernel_rfl) (by simp) ?_
          refine AllReadyH.cons rfl (fun K hK => ?_) AllReadyH.nil
          refine op_put hH dd LL.out rfl _ _ rfl _ rfl rfl hN hGl hGw ?_
          intro wz kz hz
          refine hK.out _ _ hz (fun hH => ?_)
          refine wpAnyH_take (i := 9) (v := .int .i64 0) rfl (by kernel_rfl) (by kernel_rfl) (by kernel_rfl) (fun _ _ _ h => h) (Or.inl ⟨by rfl, fun w' _ => by go_simp⟩) hH ?_
          refine wpAnyH_done (by kernel_rfl) ?_ _
          have KZ : Hid (Kept _ _ _) := kz
          clear kz hz hH hN hGl hGw hK
          go_wp2_with fail
          go_meet
          exact ⟨_, rfl, rfl, KZ.out⟩
      case rest =>
        obtain ⟨G, rfl, rfl, kz⟩ := hcut
        clear KP RV RD P2
        have KP : Hid (Kept _ _ _) := kz
        clear kz
        go_wp2_with (first
  | (refine step_get KP.out 0 rfl rfl _ rfl rfl ?_)
  | (refine step_getG KP.out 0 rfl rfl _ rfl rfl ?_)
  | (refine step_get KP.out 1 rfl rfl _ rfl rfl ?_)
  | (refine step_getG KP.out 1 rfl rfl _ rfl rfl ?_)
  | (refine step_get KP.out 2 rfl rfl _ rfl rfl ?_)
  | (refine step_getG KP.out 2 rfl rfl _ rfl rfl ?_)
  | (refine step_get KP.out 3 rfl rfl _ rfl rfl ?_)
  | (refine step_getG KP.out 3 rfl rfl _ rfl rfl ?_))
        refine (SM.out _).mono ?_
        rintro e w10 ⟨rfl, bw10⟩
        have KP' : Kept _ _ w10 := KP.out.call bw10
        clear KP bw10
        have KP : Hid (Kept _ _ w10) := KP'
        clear KP'
        go_wp2_with fail
        go_ret
        exact ⟨rfl, KP.out.bb⟩
    · have ne : (E1 != 0) = true := bne_iff_ne.2 z1
      clear z1 PU
      go_wp2_with (first
  | (refine step_put KP.out cc L1.out rfl _ _ rfl rfl rfl ?_; clear KP; intro w8 KP'; intro _; have KP : Hid (Kept _ _ _) := KP'; clear KP')
  | (refine step_get KP.out 0 rfl rfl _ rfl rfl ?_)
  | (refine step_get KP.out 1 rfl rfl _ rfl rfl ?_))
      go_ret
      exact ⟨rfl, KP.out.bb⟩
  · have ne : (E0 != 0) = true := bne_iff_ne.2 z0
    clear z0 PU
    go_wp2_with (first
  | (refine step_put KP.out cc L1.out rfl _ _ rfl rfl rfl ?_; clear KP; intro w8 KP'; intro _; have KP : Hid (Kept _ _ _) := KP'; clear KP')
  | (refine step_get KP.out 0 rfl rfl _ rfl rfl ?_)
  | (refine step_get KP.out 1 rfl rfl _ rfl rfl ?_))
    go_ret
    exact ⟨rfl, KP.out.bb⟩
end Go.Proofs.YtkmmpffkmoaceabDoor
