/-
  Ours: LedgerPosts.
-/
import Derived.Test.YtacdnigeboeleaaDoorLedKept
import Derived.Test.YtacdnigeboeleaaDoorLedStill
import Derived.Test.YtacdnigeboeleaaDoorLedRPst
import Derived.Test.YtacdnigeboeleaaDoorLedUnd
import Derived.Deep.CutRange
namespace Go.Proofs.YtacdnigeboeleaaDoor
open Go.RowKit LedM

theorem op_put2 {ops : Array Oper} {op : Oper} {a : Act} {wr : World} {K : Act → World → Prop} {Q : Exit → Act → World → Prop} {E : Prop} (l : List Int) (hl : l.length = 12) (hgd : op.guard = Option.none) (x y : Operand) (ho : op.op = .store 25 x y)
    (G : Nat) (hx : a.eval x = .pointer (some ⟨G, 0, Option.none⟩)) (hy : a.eval y = .agg (bkL l).toArray) (l0 : List Int) (hl0 : l0.length = 12) (hb : Blk G 25 (bkL l0) wr)
    (h : ∀ w', Blk G 25 (bkL l) w' → wr.grownBy w' (some G) → K (a.put op.dst undef) w') : if Region.wanted op (yielded ops a.tmps) = true then Oper.wp Tryd.prog op a wr K Q else E := by
  have hwd : Region.wanted op (yielded ops a.tmps) = true := by simp [Region.wanted, hgd]
  rw [if_pos hwd]
  unfold Oper.wp execOp
  simp only [ho, hx, hy, Instr.storeAt, Instr.sureAddr, Sem.run_bind, Sem.run_pure, Result.andThen_ok, run_storeVar_blk wr G 0 25 25 (bkL l0) (bkL l) hb (by rw [bkL_len, bkL_len, hl, hl0]; exact Nat.le_refl _) (infoBl hl) (bkL_one _)]
  have nb := setRow_heap wr G _ ((bkL l0).take 0 ++ bkL l ++ (bkL l0).drop (0 + (bkL l).length)).toArray 25 _ hb
  have g := setRow_grown wr G ((bkL l0).take 0 ++ bkL l ++ (bkL l0).drop (0 + (bkL l).length)).toArray
  exact h _ (by rw [store_all (by rw [bkL_len, bkL_len, hl, hl0])] at nb ⊢; exact nb) g
theorem Kept.put {w : World} {bs : List (Nat × List Int)} {wr w' : World} {G : Nat} {l : List Int} (h : Kept w bs wr) (hg : wr.grownBy w' (some G)) (hG : ∀ p ∈ bs, p.1 < G) (hw : w.heap.size ≤ G) (hl : l.length = 12) (hb : Blk G 25 (bkL l) w') : Kept w ((G, l) :: bs) w' := by
  have h2 := h.grown hg (fun g' e => by cases e; exact ⟨hw, hG⟩)
  refine ⟨h2.bb, fun p hp => ?_⟩
  rcases List.mem_cons.1 hp with rfl | hp
  · exact ⟨hw, hl, hb⟩
  · exact h2.bk p hp
theorem Kept.kept {w : World} {bs : List (Nat × List Int)} {wr w' : World} {row : Option Nat} (h : Kept w bs wr) (hg : wr.grownBy w' row) (hr : ∀ g, row = some g → w.heap.size ≤ g ∧ ∀ p ∈ bs, p.1 ≠ g) : Kept w bs w' :=
  ⟨h.bb.grown hg h.bb.size (fun g e => (hr g e).1), fun p hp => ⟨(h.bk p hp).1, (h.bk p hp).2.1, (h.bk p hp).2.2.grown hg (fun e => (hr _ e).2 p hp rfl)⟩⟩
theorem LedM.ok_half {es : List Ent} (h : ∀ e ∈ es, EntOk e) : ∀ e ∈ es.map halfE, EntOk e := fun e he => by
  obtain ⟨x, hx, rfl⟩ := List.mem_map.1 he
  obtain ⟨a, b, c⟩ := h x hx
  refine ⟨b, a, ?_⟩
  unfold i64 at c ⊢
  unfold halfE wrap64
  simp only
  omega
theorem RowE.shapeP {base : Nat} {w : World} {v : Value} {es : List Ent} (h : RowE base w v es) (h0 : 0 < es.length) : ∃ g cap, v = .slice (some ⟨g, 0, none⟩) es.length cap ∧ es.length ≤ cap := by
  rcases h.2 with ⟨_, hz⟩ | ⟨g, cap, cur, hv, _, _, hn, _⟩
  · omega
  · exact ⟨g, cap, hv, hn⟩

set_option maxRecDepth 20000 in
set_option maxHeartbeats 1500000 in
theorem posts_any (l : List Int) (es : List Ent) (v : Value) (w : World) (hl : BkOk l) (h : RdE w v es) (ok : ∀ e ∈ es, EntOk e) (hn : es.length ≤ 1048576) (hT : TabD w) :
    Calls Tryd.prog 6 #[.agg (bkL l).toArray, v] w fun e w' => e = .returned (.bool true) ∧ Below w.heap.size w w' := by
  have KP : Hid (Kept w [(w.heap.size, l)] (w.alloc (.cells (bkL l).toArray 25))) := Kept.first w l hl.1
  have MA : Hid (∀ w' v' fs, RdE w' v' fs → fs.length ≤ 1048576 → Calls Tryd.prog 11 #[v'] w' fun e w2 => ∃ v2, e = .returned v2 ∧ RowE w'.heap.size w2 v2 (fs ++ [mkE 1, mkE 2]) ∧ Below w'.heap.size w' w2) := fun w' v' fs hr h => marked_at fs v' w' (by omega) hr
  have P1 : Hid (∀ w' v', Below w.heap.size w w' → RdE w' v' es → Calls Tryd.prog 7 #[.agg (bkL l).toArray, v'] w' fun e w2 => e = .returned (.tuple #[.agg (bkL (postB l es)).toArray, .int .i64 (postE l es)]) ∧ Below w'.heap.size w' w2) := fun w' v' hb hr => post_at l es v' w' hl ok (by omega) hr (hT.later hb)
  have PR : Hid (∀ w' v', Below w.heap.size w w' → RdE w' v' es → Calls Tryd.prog 17 #[.agg (bkL l).toArray, v'] w' fun e w2 => e = .returned (.tuple #[.agg (bkL (postB l es)).toArray, .int .i64 (postE l es)]) ∧ Below w'.heap.size w' w2) := fun w' v' hb hr => rpost_at l es v' w' hl ok (by omega) hr
  have ok2 : ∀ e ∈ es.map halfE, EntOk e := ok_half ok
  have P2 : Hid (∀ w' v', Below w.heap.size w w' → RdE w' v' (es.map halfE) → Calls Tryd.prog 7 #[.agg (bkL l).toArray, v'] w' fun e w2 => e = .returned (.tuple #[.agg (bkL (postB l (es.map halfE))).toArray, .int .i64 (postE l (es.map halfE))]) ∧ Below w'.heap.size w' w2) := fun w' v' hb hr => post_at l _ v' w' hl ok2 (by rw [List.length_map]; omega) hr (hT.later hb)
  have PR2 : Hid (∀ w' v', Below w.heap.size w w' → RdE w' v' (es.map halfE) → Calls Tryd.prog 17 #[.agg (bkL l).toArray, v'] w' fun e w2 => e = .returned (.tuple #[.agg (bkL (postB l (es.map halfE))).toArray, .int .i64 (postE l (es.map halfE))]) ∧ Below w'.heap.size w' w2) := fun w' v' hb hr => rpost_at l _ v' w' hl ok2 (by rw [List.length_map]; omega) hr
  have SM : Hid (∀ (m : List Int) (w' : World), m.length = 12 → Calls Tryd.prog 18 #[.agg (bkL m).toArray, .agg (bkL m).toArray] w' fun e w2 => e = .returned (.bool true) ∧ Below w'.heap.size w' w2) := fun m w' hm => by have := same_at m m w' hm hm; rwa [decide_eq_true rfl] at this
  have ST : Hid (∀ w' fs a c vl, RdE w' (.slice a (fs ++ [mkE 1, mkE 2]).length c) (fs ++ [mkE 1, mkE 2]) → RdE w' vl fs → fs.length ≤ 1048576 → Calls Tryd.prog 15 #[.slice a (fs ++ [mkE 1, mkE 2]).length c, vl] w' fun e w2 => e = .returned (.bool true) ∧ Below w'.heap.size w' w2) := fun w' fs a c vl h1 h2 h3 => still_yes fs a c vl w' (by omega) h1 h2
  have TU : Hid (∀ w' base g cap, RowE base w' (.slice (some ⟨g, 0, none⟩) (es ++ [mkE 1, mkE 2]).length cap) (es ++ [mkE 1, mkE 2]) → Calls Tryd.prog 16 #[.slice (some ⟨g, 0, none⟩) es.length cap] w' fun e w2 => ∃ v2, e = .returned v2 ∧ RowE w'.heap.size w2 v2 (es.map halfE) ∧ RowE base w2 (.slice (some ⟨g, 0, none⟩) (es ++ [mkE 1, mkE 2]).length cap) (es.map halfE ++ [mkE 1, mkE 2]) ∧ w'.grownBy w2 (some g)) := fun w' base g cap hr => turned_at es [mkE 1, mkE 2] base g cap w' (by omega) hr
  have RD : Hid (∀ w', Below w.heap.size w w' → RdE w' v es) := fun w' hb => h.later hb
  obtain ⟨av, capv, evl, _⟩ := id h
  obtain ⟨L, hL⟩ : ∃ L, es.length = L := ⟨_, rfl⟩
  have HL : Hid (es.length = L ∧ es.length ≤ 1048576) := ⟨hL, hn⟩
  have hM : (es ++ [mkE 1, mkE 2]).length = L + 2 := by rw [List.length_append, hL]; rfl
  rw [hM, hL] at TU
  rw [hL] at evl
  subst evl
  have LL : Hid (l.length = 12) := hl.1
  have L1 : Hid ((postB l es).length = 12) := (postB_ok hl).1
  have L2 : Hid ((postB l (es.map halfE)).length = 12) := (postB_ok hl).1
  have LH : Hid ((es.map halfE).length = L) := by show _ = _; rw [List.length_map]; exact hL
  clear h hl ok ok2 hT
  generalize postB l (es.map halfE) = c2 at *
  generalize postE l (es.map halfE) = E2 at *
  generalize postB l es = cc at *
  generalize postE l es = E1 at *
  go_enter Tryd.func6, Tryd.ntmps6
  go_wp2_with fail
  refine (MA.out _ _ es (RD.out _ KP.out.bb) HL.out.2).mono ?_
  rintro e w1 ⟨vg, rfl, rg, b1⟩
  obtain ⟨g, cg, rfl, hcg⟩ := rg.shapeP (by simp)
  rw [hM] at rg hcg
  rw [hM]
  have HG : Hid (w.heap.size < g ∧ g < w1.heap.size) := ⟨by have := rg.ge rfl; simp at this; omega, rg.lt rfl⟩
  have RG : Hid (RowE w.heap.size w1 (.slice (some ⟨g, 0, none⟩) (L + 2) cg) (es ++ [mkE 1, mkE 2])) := rg.mono (by simp)
  have KP' : Kept w _ w1 := KP.out.call b1
  clear KP
  have KP : Hid (Kept w [(w.heap.size, l)] w1) := KP'
  have sl := fun W => slice_hi (some ⟨g, 0, none⟩) (L + 2) cg L (by omega) W
  have CUT : Hid (∀ w', RowE w.heap.size w' (.slice (some ⟨g, 0, none⟩) (L + 2) cg) (es ++ [mkE 1, mkE 2]) → RdE w' (.slice (some ⟨g, 0, none⟩) L cg) es) := fun w' hr => by have := hr.rd.take (k := L) (by omega); rwa [List.take_left' HL.out.1] at this
  have hlL : L ≤ 1048576 := by have := HL.out; omega
  clear rg b1 KP' hn hM
  go_upto_region 2 with fail
  go_cut [6, 7] from 13 to 21 (fun v6 v7 wx => ∃ G, g < G ∧ v6 = .pointer (some ⟨G, 0, none⟩) ∧ v7 = .int .i64 E1 ∧ Kept w [(G, cc), (w.heap.size, l)] wx ∧ RowE w.heap.size wx (.slice (some ⟨g, 0, none⟩) (L + 2) cg) (es ++ [mkE 1, mkE 2]))
  case first =>
    have hu := Tryd.underlying25
    have hi : (Tryd.prog.info? 25).map (·.size) = some (bkL l).length := infoBl LL.out
    refine wp_region_held_drew (S := fun w' => Kept w [(w.heap.size, l)] w' ∧ RowE w.heap.size w' (.slice (some ⟨g, 0, none⟩) (L + 2) cg) (es ++ [mkE 1, mkE 2])) (by kernel_rfl) ⟨KP.out.drewN 1, RG.out.later (below_drewN (Below.refl _ _) 1)⟩ (fun hH => ?_)
    refine' wpAnyH_take (i := 0) (v := _) rfl (by kernel_rfl) (by kernel_rfl) (by kernel_rfl) (fun _ _ _ h => h) (yieldsIf_load_mid (by rfl) _ _ rfl _ _ rfl (bkL l) _ (fun w' h => (h.1.at 0 rfl).2.all) hu rfl hi) hH ?_
    simp only [Act.put]
    refine wpAnyH_take (i := 1) (v := (.slice (some ⟨g, 0, none⟩) (L + 2) cg)) rfl (by kernel_rfl) (by kernel_rfl) (by kernel_rfl) (fun _ _ _ h => h) (Or.inl ⟨by rfl, fun w' _ => by go_simp⟩) hH ?_
    simp only [Act.put]
    refine wpAnyH_take (i := 2) (v := .slice av L capv) rfl (by kernel_rfl) (by kernel_rfl) (by kernel_rfl) (fun _ _ _ h => h) (Or.inl ⟨by rfl, fun w' _ => by go_simp⟩) hH ?_
    simp only [Act.put]
    refine wpAnyH_take (i := 3) (v := .int .i64 (L : Int)) rfl (by kernel_rfl) (by kernel_rfl) (by kernel_rfl) (fun _ _ _ h => h) (Or.inl ⟨by rfl, fun w' _ => by go_simp⟩) hH ?_
    simp only [Act.put]
    refine wpAnyH_take (i := 4) (v := .slice (some ⟨g, 0, none⟩) L cg) rfl (by kernel_rfl) (by kernel_rfl) (by kernel_rfl) (fun _ _ _ h => h) (Or.inl ⟨by rfl, fun w' _ => by go_simp⟩) hH ?_
    simp only [Act.put]
    refine wpAnyH_ready (rs := [5, 9]) (by kernel_rfl) (by simp) ?_
    refine AllReadyH.cons rfl (fun K hK => ?_) (AllReadyH.cons rfl (fun K hK => ?_) AllReadyH.nil)
    · go_simp
      refine (P1.out _ _ hH.1.bb (CUT.out _ hH.2)).mono ?_
      rintro e wb ⟨rfl, bb⟩
      refine hK.out _ _ ⟨hH.1.call bb, hH.2.later bb⟩ (fun hH => ?_)
      refine wpAnyH_take (i := 6) (v := .tuple #[.agg (bkL cc).toArray, .int .i64 E1]) rfl (by kernel_rfl) (by kernel_rfl) (by kernel_rfl) (fun _ _ _ h => h) (Or.inl ⟨by rfl, fun w' _ => by go_simp⟩) hH ?_
      simp only [Act.put]
      refine wpAnyH_take (i := 7) (v := .agg (bkL cc).toArray) rfl (by kernel_rfl) (by kernel_rfl) (by kernel_rfl) (fun _ _ _ h => h) (Or.inl ⟨by rfl, fun w' _ => by go_simp⟩) hH ?_
      simp only [Act.put]
      refine wpAnyH_take (i := 8) (v := .int .i64 E1) rfl (by kernel_rfl) (by kernel_rfl) (by kernel_rfl) (fun _ _ _ h => h) (Or.inl ⟨by rfl, fun w' _ => by go_simp⟩) hH ?_
      simp only [Act.put]
      refine wpAnyH_ready (rs := [9]) (by kernel_rfl) (by simp) ?_
      refine AllReadyH.cons rfl (fun K hK => ?_) AllReadyH.nil
      go_simp
      have hN := Blk.new 25 (bkL zeroL) wb
      have hGl := hH.1.lt
      have hGg : g < wb.heap.size := hH.2.lt rfl
      have hGw := hH.1.bb.size
      refine hK.out _ _ ⟨hH.1.alloc _, hH.2.later (below_alloc _ _)⟩ (fun hH => ?_)
      refine wpAnyH_ready (rs := [10]) (by kernel_rfl) (by simp) ?_
      refine AllReadyH.cons rfl (fun K hK => ?_) AllReadyH.nil
      refine op_put2 cc L1.out rfl _ _ rfl _ rfl rfl zeroL rfl hN ?_
      intro wz nz gz
      have kz : Kept w [(_, cc), (w.heap.size, l)] wz := hH.1.put gz hGl hGw L1.out nz
      have rz : RowE w.heap.size wz (.slice (some ⟨g, 0, none⟩) (L + 2) cg) (es ++ [mkE 1, mkE 2]) := hH.2.kept gz (fun g' hv e => by
        have h1 : g = g' := Option.some.inj hv
        have h2 := Option.some.inj e
        omega)
      refine hK.out _ _ ⟨⟨kz.bb, fun p hp => kz.bk p (List.mem_cons_of_mem _ hp)⟩, rz⟩ (fun hH => ?_)
      refine wpAnyH_take (i := 11) (v := .int .i64 E1) rfl (by kernel_rfl) (by kernel_rfl) (by kernel_rfl) (fun _ _ _ h => h) (Or.inl ⟨by rfl, fun w' _ => by go_simp⟩) hH ?_
      refine wpAnyH_done (by kernel_rfl) ?_ _
      have KZ : Hid (Kept _ _ _) := kz
      have RZ : Hid (RowE _ _ _ _) := rz
      clear kz rz nz gz hH hN hGl hGw hK
      go_wp2_with fail
      go_meet
      exact ⟨_, hGg, rfl, rfl, KZ.out, RZ.out⟩
    · go_simp
      have hN : Blk w1.heap.size 25 (bkL zeroL) (w1.drew.alloc (.cells (bkL zeroL).toArray 25)) := Blk.new 25 (bkL zeroL) w1.drew
      have hGl : ∀ p ∈ [(w.heap.size, l)], p.1 < w1.heap.size := hH.1.lt
      have hGg : g < w1.heap.size := HG.out.2
      have hGw : w.heap.size ≤ w1.heap.size := hH.1.bb.size
      refine hK.out _ _ ⟨hH.1.alloc _, hH.2.later (below_alloc _ _)⟩ (fun hH => ?_)
      refine wpAnyH_ready (rs := [5]) (by kernel_rfl) (by simp) ?_
      refine AllReadyH.cons rfl (fun K hK => ?_) AllReadyH.nil
      go_simp
      refine (P1.out _ _ hH.1.bb (CUT.out _ hH.2)).mono ?_
      rintro e wb ⟨rfl, bb⟩
      refine hK.out _ _ ⟨hH.1.call bb, hH.2.later bb⟩ (fun hH => ?_)
      have hN := hN.below bb
      refine wpAnyH_take (i := 6) (v := .tuple #[.agg (bkL cc).toArray, .int .i64 E1]) rfl (by kernel_rfl) (by kernel_rfl) (by kernel_rfl) (fun _ _ _ h => h) (Or.inl ⟨by rfl, fun w' _ => by go_simp⟩) hH ?_
      refine wpAnyH_take (i := 7) (v := .agg (bkL cc).toArray) rfl (by kernel_rfl) (by kernel_rfl) (by kernel_rfl) (fun _ _ _ h => h) (Or.inl ⟨by rfl, fun w' _ => by go_simp⟩) hH ?_
      refine wpAnyH_take (i := 8) (v := .int .i64 E1) rfl (by kernel_rfl) (by kernel_rfl) (by kernel_rfl) (fun _ _ _ h => h) (Or.inl ⟨by rfl, fun w' _ => by go_simp⟩) hH ?_
      refine wpAnyH_ready (rs := [10]) (by kernel_rfl) (by simp) ?_
      refine AllReadyH.cons rfl (fun K hK => ?_) AllReadyH.nil
      refine op_put2 cc L1.out rfl _ _ rfl _ rfl rfl zeroL rfl hN ?_
      intro wz nz gz
      have kz : Kept w [(_, cc), (w.heap.size, l)] wz := hH.1.put gz hGl hGw L1.out nz
      have rz : RowE w.heap.size wz (.slice (some ⟨g, 0, none⟩) (L + 2) cg) (es ++ [mkE 1, mkE 2]) := hH.2.kept gz (fun g' hv e => by
        have h1 : g = g' := Option.some.inj hv
        have h2 := Option.some.inj e
        omega)
      refine hK.out _ _ ⟨⟨kz.bb, fun p hp => kz.bk p (List.mem_cons_of_mem _ hp)⟩, rz⟩ (fun hH => ?_)
      refine wpAnyH_take (i := 11) (v := .int .i64 E1) rfl (by kernel_rfl) (by kernel_rfl) (by kernel_rfl) (fun _ _ _ h => h) (Or.inl ⟨by rfl, fun w' _ => by go_simp⟩) hH ?_
      refine wpAnyH_done (by kernel_rfl) ?_ _
      have KZ : Hid (Kept _ _ _) := kz
      have RZ : Hid (RowE _ _ _ _) := rz
      clear kz rz nz gz hH hN hGl hGw hK
      go_wp2_with fail
      go_meet
      exact ⟨_, hGg, rfl, rfl, KZ.out, RZ.out⟩
  case rest =>
    obtain ⟨G, hgG, rfl, rfl, kz, rz⟩ := hcut
    clear KP RG
    have KP : Hid (Kept w [(G, cc), (w.heap.size, l)] _) := kz
    have RG : Hid (RowE w.heap.size _ (.slice (some ⟨g, 0, none⟩) (L + 2) cg) (es ++ [mkE 1, mkE 2])) := rz
    clear kz rz P1 MA
    go_wp2_with (refine step_get KP.out 1 rfl rfl _ rfl rfl ?_)
    refine (PR.out _ _ KP.out.bb (RD.out _ KP.out.bb)).mono ?_
    rintro e w4 ⟨rfl, b4⟩
    have K4 : Hid (Kept w [(G, cc), (w.heap.size, l)] w4) := KP.out.call b4
    have R4 : Hid (RowE w.heap.size w4 (.slice (some ⟨g, 0, none⟩) (L + 2) cg) (es ++ [mkE 1, mkE 2])) := RG.out.later b4
    have NB : Hid (Blk w4.heap.size 25 (bkL zeroL) (w4.alloc (.cells #[Value.int .i64 0, Value.int .i64 0, Value.int .i64 0, Value.int .i64 0, Value.int .i64 0, Value.int .i64 0, Value.int .i64 0, Value.int .i64 0, Value.int .i64 0, Value.int .i64 0, Value.int .i64 0, Value.int .i64 0] 25))) := Blk.new 25 (bkL zeroL) w4
    have hG4 : G < w4.heap.size := K4.out.lt (G, cc) (by simp)
    have hg4 : g < w4.heap.size := R4.out.lt rfl
    have ws4 : w.heap.size ≤ w4.heap.size := K4.out.bb.size
    clear KP RG b4 PR
    go_wp2_with (first
      | (refine step_store rfl 25 _ _ rfl w4.heap.size 0 25 (bkL zeroL) (bkL cc) rfl rfl NB.out (by rw [bkL_len, L1.out]; exact Nat.le_refl _) (infoBl L1.out) (bkL_one _) ?_; intro w5 nb5 g5; rw [store_all (by rw [bkL_len, L1.out]; rfl)] at nb5; have K5 : Hid (Kept w [(w4.heap.size, cc), (G, cc), (w.heap.size, l)] w5) := (K4.out.alloc _).put g5 K4.out.lt ws4 L1.out nb5; have R5 : Hid (RowE w.heap.size w5 (.slice (some ⟨g, 0, none⟩) (L + 2) cg) (es ++ [mkE 1, mkE 2])) := (R4.out.later (below_alloc _ _)).kept g5 (fun g' hv e => by have h1 : g = g' := Option.some.inj hv; have h2 := Option.some.inj e; omega); clear nb5 g5 NB K4 R4)
      | (refine step_get K5.out 0 rfl rfl _ rfl rfl ?_)
      | (refine step_get K5.out 1 rfl rfl _ rfl rfl ?_))
    refine (SM.out _ _ L1.out).mono ?_
    rintro e w6 ⟨rfl, b6⟩
    have K6 : Hid (Kept w [(w4.heap.size, cc), (G, cc), (w.heap.size, l)] w6) := K5.out.call b6
    have R6 : Hid (RowE w.heap.size w6 (.slice (some ⟨g, 0, none⟩) (L + 2) cg) (es ++ [mkE 1, mkE 2])) := R5.out.later b6
    clear K5 R5 b6
    have ne : (E1 != E1) = false := by simp
    have STE : Hid (∀ w' fs vl, fs.length = L → RdE w' (.slice (some ⟨g, 0, none⟩) (L + 2) cg) (fs ++ [mkE 1, mkE 2]) → RdE w' vl fs → Calls Tryd.prog 15 #[(.slice (some ⟨g, 0, none⟩) (L + 2) cg), vl] w' fun e w2 => e = .returned (.bool true) ∧ Below w'.heap.size w' w2) := fun w' fs vl hf h1 h2 => by
      have hm : (fs ++ [mkE 1, mkE 2]).length = L + 2 := by rw [List.length_append, hf]; rfl
      have := ST.out w' fs (some ⟨g, 0, none⟩) cg vl (by rw [hm]; exact h1) h2 (by have := HL.out; omega)
      rwa [hm] at this
    clear ST
    go_wp2_with fail
    refine (STE.out _ es _ HL.out.1 R6.out.rd (RD.out _ K6.out.bb)).mono ?_
    rintro e w7 ⟨rfl, b7⟩
    have K7 : Hid (Kept w [(w4.heap.size, cc), (G, cc), (w.heap.size, l)] w7) := K6.out.call b7
    have R7 : Hid (RowE w.heap.size w7 (.slice (some ⟨g, 0, none⟩) (L + 2) cg) (es ++ [mkE 1, mkE 2])) := R6.out.later b7
    clear K6 R6 b7 ne
    go_wp2_with fail
    refine (TU.out _ _ _ _ R7.out).mono ?_
    rintro e w8 ⟨vo, rfl, ro, rg, gt⟩
    have K8 : Hid (Kept w [(w4.heap.size, cc), (G, cc), (w.heap.size, l)] w8) := K7.out.kept gt (fun g' e => by
      cases e
      have := HG.out
      refine ⟨by omega, fun p hp => ?_⟩
      simp at hp
      rcases hp with rfl | rfl | rfl <;> simp only [ne_eq] <;> omega)
    have R8 : Hid (RowE w.heap.size w8 (.slice (some ⟨g, 0, none⟩) (L + 2) cg) (es.map halfE ++ [mkE 1, mkE 2])) := rg
    have O8 : Hid (RowE w7.heap.size w8 vo (es.map halfE)) := ro
    have h47 : w4.heap.size < w7.heap.size := K7.out.lt (w4.heap.size, cc) (by simp)
    clear ro rg gt K7 R7 TU RD CUT
    have CUT : Hid (∀ w', RowE w.heap.size w' (.slice (some ⟨g, 0, none⟩) (L + 2) cg) (es.map halfE ++ [mkE 1, mkE 2]) → RdE w' (.slice (some ⟨g, 0, none⟩) L cg) (es.map halfE)) := fun w' hr => by have := hr.rd.take (k := L) (by omega); rwa [List.take_left' LH.out] at this
    obtain ⟨ao, co, eo⟩ : ∃ ao co, vo = .slice ao L co := by
      obtain ⟨a, c, e, _⟩ := O8.out.rd
      rw [LH.out] at e
      exact ⟨a, c, e⟩
    subst eo
    go_upto_region 7 with fail
    have hu := Tryd.underlying25
    have hi : (Tryd.prog.info? 25).map (·.size) = some (bkL l).length := infoBl LL.out
    have KS : Kept w [(w4.heap.size, cc), (w.heap.size, l)] w8 := ⟨K8.out.bb, fun p hp => K8.out.bk p (by simp at hp ⊢; rcases hp with h | h <;> simp [h])⟩
    refine wp_region_held_drew (S := fun w' => Kept w [(w4.heap.size, cc), (w.heap.size, l)] w' ∧ RowE w.heap.size w' (.slice (some ⟨g, 0, none⟩) (L + 2) cg) (es.map halfE ++ [mkE 1, mkE 2]) ∧ RowE w7.heap.size w' (.slice ao L co) (es.map halfE) ∧ ∃ l0 : List Int, l0.length = 12 ∧ Blk G 25 (bkL l0) w') (by kernel_rfl) ⟨KS.drewN 1, R8.out.later (below_drewN (Below.refl _ _) 1), O8.out.later (below_drewN (Below.refl _ _) 1), cc, L1.out, (K8.out.at 1 rfl).2.drewN 1⟩ (fun hH => ?_)
    refine' wpAnyH_take (i := 0) (v := _) rfl (by kernel_rfl) (by kernel_rfl) (by kernel_rfl) (fun _ _ _ h => h) (yieldsIf_load_mid (by rfl) _ _ rfl _ _ rfl (bkL l) _ (fun w' h => (h.1.at 1 rfl).2.all) hu rfl hi) hH ?_
    simp only [Act.put]
    refine wpAnyH_take (i := 1) (v := (.slice (some ⟨g, 0, none⟩) (L + 2) cg)) rfl (by kernel_rfl) (by kernel_rfl) (by kernel_rfl) (fun _ _ _ h => h) (Or.inl ⟨by rfl, fun w' _ => by go_simp⟩) hH ?_
    simp only [Act.put]
    refine wpAnyH_take (i := 2) (v := .slice av L capv) rfl (by kernel_rfl) (by kernel_rfl) (by kernel_rfl) (fun _ _ _ h => h) (Or.inl ⟨by rfl, fun w' _ => by go_simp⟩) hH ?_
    simp only [Act.put]
    refine wpAnyH_take (i := 3) (v := .int .i64 (L : Int)) rfl (by kernel_rfl) (by kernel_rfl) (by kernel_rfl) (fun _ _ _ h => h) (Or.inl ⟨by rfl, fun w' _ => by go_simp⟩) hH ?_
    simp only [Act.put]
    refine wpAnyH_take (i := 4) (v := .slice (some ⟨g, 0, none⟩) L cg) rfl (by kernel_rfl) (by kernel_rfl) (by kernel_rfl) (fun _ _ _ h => h) (Or.inl ⟨by rfl, fun w' _ => by go_simp⟩) hH ?_
    simp only [Act.put]
    refine wpAnyH_ready (rs := [5]) (by kernel_rfl) (by simp) ?_
    refine AllReadyH.cons rfl (fun K hK => ?_) AllReadyH.nil
    go_simp
    refine (P2.out _ _ hH.1.bb (CUT.out _ hH.2.1)).mono ?_
    rintro e wb ⟨rfl, bb⟩
    refine hK.out _ _ ⟨hH.1.call bb, hH.2.1.later bb, hH.2.2.1.later bb, by obtain ⟨l0, h0, b0⟩ := hH.2.2.2; exact ⟨l0, h0, b0.below bb⟩⟩ (fun hH => ?_)
    refine wpAnyH_take (i := 6) (v := .tuple #[.agg (bkL c2).toArray, .int .i64 E2]) rfl (by kernel_rfl) (by kernel_rfl) (by kernel_rfl) (fun _ _ _ h => h) (Or.inl ⟨by rfl, fun w' _ => by go_simp⟩) hH ?_
    simp only [Act.put]
    refine wpAnyH_take (i := 7) (v := .agg (bkL c2).toArray) rfl (by kernel_rfl) (by kernel_rfl) (by kernel_rfl) (fun _ _ _ h => h) (Or.inl ⟨by rfl, fun w' _ => by go_simp⟩) hH ?_
    simp only [Act.put]
    refine wpAnyH_take (i := 8) (v := .int .i64 E2) rfl (by kernel_rfl) (by kernel_rfl) (by kernel_rfl) (fun _ _ _ h => h) (Or.inl ⟨by rfl, fun w' _ => by go_simp⟩) hH ?_
    simp only [Act.put]
    refine wpAnyH_ready (rs := [9]) (by kernel_rfl) (by simp) ?_
    refine AllReadyH.cons rfl (fun K hK => ?_) AllReadyH.nil
    refine Exists.elim hH.2.2.2 (fun l0 hlb => ?_)
    have h0 : l0.length = 12 := hlb.1
    have b0 : Blk G 25 (bkL l0) wb := hlb.2
    clear hlb
    refine op_put2 c2 L2.out rfl (.tmp 6) (.tmp 55) rfl G rfl rfl l0 h0 b0 ?_
    intro wz nz gz
    have hwg := HG.out
    have k2 : Kept w [(w4.heap.size, cc), (w.heap.size, l)] wz := hH.1.kept gz (fun g' e => by
      cases e
      refine ⟨by omega, fun p hp => ?_⟩
      simp at hp
      rcases hp with rfl | rfl <;> simp only [ne_eq] <;> omega)
    have kz : Kept w [(G, c2), (w4.heap.size, cc), (w.heap.size, l)] wz := ⟨k2.bb, fun p hp => by
      rcases List.mem_cons.1 hp with rfl | hp
      · exact ⟨by simp only; omega, L2.out, nz⟩
      · exact k2.bk p hp⟩
    have rz : RowE w.heap.size wz (.slice (some ⟨g, 0, none⟩) (L + 2) cg) (es.map halfE ++ [mkE 1, mkE 2]) := hH.2.1.kept gz (fun g' hv e => by
      have h1 : g = g' := Option.some.inj hv
      have h2 := Option.some.inj e
      omega)
    have oz : RowE w7.heap.size wz (.slice ao L co) (es.map halfE) := hH.2.2.1.kept gz (fun g' hv e => by
      have h1 := hH.2.2.1.ge hv
      have h2 := Option.some.inj e
      omega)
    refine hK.out _ _ ⟨k2, rz, oz, c2, L2.out, nz⟩ (fun hH => ?_)
    refine wpAnyH_take (i := 10) (v := .int .i64 E2) rfl (by kernel_rfl) (by kernel_rfl) (by kernel_rfl) (fun _ _ _ h => h) (Or.inl ⟨by rfl, fun w' _ => by go_simp⟩) hH ?_
    refine wpAnyH_done (by kernel_rfl) ?_ _
    have KP : Hid (Kept w [(G, c2), (w4.heap.size, cc), (w.heap.size, l)] wz) := kz
    have RZ : Hid (RowE w.heap.size wz (.slice (some ⟨g, 0, none⟩) (L + 2) cg) (es.map halfE ++ [mkE 1, mkE 2])) := rz
    have OZ : Hid (RowE w7.heap.size wz (.slice ao L co) (es.map halfE)) := oz
    clear kz rz oz k2 KS nz gz hH hK b0 h0 K8 R8 O8 P2 CUT
    go_wp2_with (refine step_get KP.out 2 rfl rfl _ rfl rfl ?_)
    refine (PR2.out _ _ KP.out.bb OZ.out.rd).mono ?_
    rintro e wy ⟨rfl, by'⟩
    have KY : Hid (Kept w [(G, c2), (w4.heap.size, cc), (w.heap.size, l)] wy) := KP.out.call by'
    have RY : Hid (RowE w.heap.size wy (.slice (some ⟨g, 0, none⟩) (L + 2) cg) (es.map halfE ++ [mkE 1, mkE 2])) := RZ.out.later by'
    have OY : Hid (RowE w7.heap.size wy (.slice ao L co) (es.map halfE)) := OZ.out.later by'
    clear KP RZ OZ by' PR2
    go_wp2_with (first
      | (refine step_store rfl 25 _ _ rfl w4.heap.size 0 25 (bkL cc) (bkL c2) rfl rfl (KY.out.at 1 rfl).2 (by rw [bkL_len, bkL_len, L1.out, L2.out]; exact Nat.le_refl _) (infoBl L2.out) (bkL_one _) ?_; intro wx nb g5; rw [store_all (by rw [bkL_len, bkL_len, L1.out, L2.out])] at nb; have NX : Hid (Blk w4.heap.size 25 (bkL c2) wx ∧ Blk G 25 (bkL c2) wx ∧ Below w.heap.size w wx) := ⟨nb, (KY.out.at 0 rfl).2.grown g5 (by simp; omega), KY.out.bb.grown g5 KY.out.bb.size (fun g' e => by cases e; omega)⟩; have RX : Hid (RowE w.heap.size wx (.slice (some ⟨g, 0, none⟩) (L + 2) cg) (es.map halfE ++ [mkE 1, mkE 2])) := RY.out.kept g5 (fun g' hv e => by have h1 : g = g' := Option.some.inj hv; have h2 := Option.some.inj e; omega); have OX : Hid (RowE w7.heap.size wx (.slice ao L co) (es.map halfE)) := OY.out.kept g5 (fun g' hv e => by have h1 := OY.out.ge hv; have h2 := Option.some.inj e; omega); clear nb g5 KY RY OY)
      | (refine step_load rfl 25 _ rfl G 0 rfl (bkL c2) _ NX.out.2.1.all Tryd.underlying25 rfl (infoBl L2.out) ?_)
      | (refine step_load rfl 25 _ rfl w4.heap.size 0 rfl (bkL c2) _ NX.out.1.all Tryd.underlying25 rfl (infoBl L2.out) ?_))
    refine (SM.out _ _ L2.out).mono ?_
    rintro e wu ⟨rfl, bu⟩
    have RU : Hid (RowE w.heap.size wu (.slice (some ⟨g, 0, none⟩) (L + 2) cg) (es.map halfE ++ [mkE 1, mkE 2])) := RX.out.later bu
    have OU : Hid (RowE w7.heap.size wu (.slice ao L co) (es.map halfE)) := OX.out.later bu
    have BU : Hid (Below w.heap.size w wu) := below_trans NX.out.2.2 bu
    clear NX RX OX bu
    have eq : (E2 == E2) = true := by simp
    go_wp2_with fail
    refine (STE.out _ (es.map halfE) _ LH.out RU.out.rd OU.out.rd).mono ?_
    rintro e wv ⟨rfl, bv⟩
    have BV : Hid (Below w.heap.size w wv) := below_trans BU.out bv
    go_wp2_with fail
    go_ret
    exact ⟨rfl, BV.out⟩
end Go.Proofs.YtacdnigeboeleaaDoor
