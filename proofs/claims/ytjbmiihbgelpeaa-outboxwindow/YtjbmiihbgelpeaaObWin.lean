/-
  Ours: OutboxWindow, walked (gen_ob8.py).
-/
import Derived.Test.YtjbmiihbgelpeaaObWin0
import Derived.Deep.RegionHeld3
import Derived.BigQuiet
namespace Go.Proofs.Ytjbmiihbgelpeaa
open Go.RowKit ObM LedM PolM
set_option linter.unusedSimpArgs false

theorem rise_cp {L qs : List En} (h : cpL L = cpL qs) (hr : Rise L) : Rise qs := by
  have e : ∀ l : List En, Rise l ↔ (cpL l).Pairwise (fun a b => a.1 < b.1) := fun l => by unfold cpL Rise; rw [List.pairwise_map]; rfl
  rw [e, ← h, ← e]
  exact hr
set_option maxRecDepth 40000 in
set_option maxHeartbeats 16000000 in
theorem outboxWindow_any (l hs : List Int) (s : Value) (os : List Sm) (la : Option Addr) (lc : Nat) (w : World) (hl : l.length = 17) (hr : Rd w s (bkL hs)) (hh : hs.length * 8 ≤ 140737488355328) (rd : RdSm w (.slice la os.length lc) os) (oks : ∀ o ∈ os, SmOk o) (hbs : ∀ o ∈ os, o.bs.length ≤ 140737488351232) (hln : os.length * 48 ≤ 140737488351232) :
    Calls Try.prog 4 #[PV l s, .slice la os.length lc] w fun e w' => e = .returned (.bool true) ∧ Below w.heap.size w w' := by
  have hh' : hs.length ≤ 1152921504606846976 := by omega
  obtain ⟨i0, hi, hz0, hz1, hz2⟩ := info_parts infoInt
  obtain ⟨C, hC⟩ : ∃ C, (if good l hs then l.getD 15 0 else 64) = C := ⟨_, rfl⟩
  have HC : Hid (0 ≤ C ∧ ∀ j, boL (rul l hs) [] j ≤ C) := by
    rw [boL_rul, ← hC]
    by_cases g : good l hs = true
    · rw [if_pos g]
      have n := nums g
      refine ⟨by have := n.base; have := n.cap; omega, fun j => ?_⟩
      unfold boL
      rw [if_pos g]
      exact (bk_ok n.base.1 n.cap.1 n.cap.2).2
    · rw [if_neg g]
      exact ⟨by omega, fun j => (boL_ok l hs j).2⟩
  have CG : Hid (good l hs = true → C = l.getD 15 0 ∧ 1 ≤ C ∧ C ≤ 64) := fun g => by
    have n := nums g
    rw [← hC, if_pos g]
    exact ⟨rfl, by have := n.base; have := n.cap; omega, n.cap.2⟩
  have LI : Hid (∀ w', Below w.heap.size w w' → Calls Try.prog 17 #[PV l s, .slice la os.length lc] w' fun e w'' => ∃ R bm B L now, e = .returned (.tuple #[.pointer (some ⟨R, 0, none⟩), .int .i64 now]) ∧ LvS R bm B (rul l hs) L w' C 2000 now w'' ∧ 0 ≤ now ∧ now ≤ 2000000) := fun w' b => by
    refine lives_at l hs s os la lc w' C HC.out hl (hr.later b) hh ?_ oks hbs hln
    obtain ⟨a, c, e, Hx⟩ := rd
    refine ⟨a, c, e, fun i o ho => ?_⟩
    obtain ⟨g, off, x, cc, e1, lt, rg, rb⟩ := Hx i o ho
    exact ⟨g, off, x, cc, e1, Nat.lt_of_lt_of_le lt b.size, fun j u hu => (b.cell (p := ⟨g, off + i * 4 + j, none⟩) lt).trans (rg j u hu), Rd.later rb b⟩
  have GD : Hid (∀ w', Below w.heap.size w w' → Calls Try.prog 11 #[PV l s] w' fun e w'' => e = .returned (.bool (good l hs)) ∧ Below w'.heap.size w' w'') := fun w' b => good_at l hs s w' hl (hr.later b) hh'
  have WK : Hid (∀ w', Below w.heap.size w w' → Calls Try.prog 20 #[PV l s] w' fun e w'' => e = .returned (.bool true) ∧ Below w'.heap.size w' w'') := fun w' b => wakes_at l hs s w' hl (hr.later b) hh
  have SZ : Hid ((Try.prog.info? 24).map (·.size) = some (polL l s).length) := by show _ = _; rw [polL_len hl]; exact sizeP
  have PA : Hid ((polL l s)[15]? = some (.int .i64 (l.getD 15 0))) := polL_at hl 15 (by omega)
  show Calls _ _ #[.agg (polL l s).toArray, _] _ _
  obtain ⟨Q, hQ⟩ : ∃ Q, w.heap.size = Q := ⟨_, rfl⟩
  obtain ⟨w0, hw0⟩ : ∃ w0, w.alloc (.cells (polL l s).toArray 24) = w0 := ⟨_, rfl⟩
  have B0 : Hid (Blk Q 24 (polL l s) w0 ∧ Below w.heap.size w w0) := by
    rw [← hw0, ← hQ]
    exact ⟨Blk.new _ _ _, below_alloc _ _⟩
  obtain ⟨N, hN⟩ : ∃ N, os.length = N := ⟨_, rfl⟩
  rw [hN] at LI ⊢
  clear hr hl hh hh' rd oks hbs hN hC hln
  go_enter Try.func4, Try.ntmps4
  go_upto_region 1 with fail
  clear hQ hw0
  go_wp2_with (refine step_load rfl 24 _ rfl Q 0 rfl (polL l s) _ (Blk.all B0.out.1) Try.underlying24 rfl SZ.out ?_)
  refine (LI.out _ B0.out.2).mono ?_
  rintro e w1 ⟨R, bm, B, L, now, rfl, lv, n0, n1⟩
  have LV : Hid (LvS R bm B (rul l hs) L w0 C 2000 now w1 ∧ Blk Q 24 (polL l s) w1 ∧ Below w.heap.size w w1 ∧ w.heap.size ≤ bm) := ⟨lv, B0.out.1.below lv.b, below_trans B0.out.2 lv.b, Nat.le_trans B0.out.2.size lv.ge⟩
  clear lv B0 LI
  go_wp2_with fail
  refine (pending_at R bm B _ L _ LV.out.1.box (by have := LV.out.1.lim.1; omega)).mono ?_
  rintro e w2 ⟨a2, n2, c2, qs, rfl, o2, q2, box2, b2⟩
  have D2 : Hid (BoxV R bm B (rul l hs) L w2 ∧ Blk Q 24 (polL l s) w2 ∧ Below w.heap.size w w2 ∧ RdL 4 enL En.bv En.bs w2 (.slice a2 n2 c2) qs ∧ qs.map core = L.map core ∧ qs.length ≤ 2000 ∧ n2 = qs.length) := by
    refine ⟨box2, LV.out.2.1.below b2, below_trans LV.out.2.2.1 b2, o2.rdl (fun x hx => ?_), q2, by have := core_len q2; have := LV.out.1.lim.1; omega, ?_⟩
    · obtain ⟨y, hy, ey⟩ := core_mem (show L.map core = qs.map core from q2.symm) hx
      have h1 : y.bs = x.bs := congrArg (·.2.2.2) ey
      rw [← h1]; exact (LV.out.1.box.bd y hy).2
    · obtain ⟨_, _, q, _⟩ := o2.len
      injection q
  clear o2 q2 box2 b2
  go_wp2_with (refine step_load rfl 24 _ rfl Q 0 rfl (polL l s) _ (Blk.all D2.out.2.1) Try.underlying24 rfl SZ.out ?_)
  refine (GD.out _ D2.out.2.2.1).mono ?_
  rintro e w3 ⟨rfl, b3⟩
  have FXH : Hid (FX R bm B L w w3 Q (polL l s) (.slice a2 n2 c2) qs ∧ BoxV R bm B (rul l hs) L w3) := by
    have bx := D2.out.1.below b3
    exact ⟨⟨bx.blk.lt, bx.mp.lt, fun g hg => (bx.b g hg).1, D2.out.2.1.below b3, D2.out.2.2.2.1.later b3, bx.mp, below_trans D2.out.2.2.1 b3, LV.out.2.2.2⟩, bx⟩
  have D3 : Hid (qs.map core = L.map core ∧ qs.length ≤ 2000 ∧ n2 = qs.length ∧ Lim 2000 L ∧ (∀ e ∈ L, e.nx ≤ now + C)) := ⟨D2.out.2.2.2.2.1, D2.out.2.2.2.2.2.1, D2.out.2.2.2.2.2.2, LV.out.1.lim, LV.out.1.nx⟩
  clear b3 D2 LV GD
  cases hg : good l hs
  · clear CG hg PA SZ WK
    have A1 : addE L 4611686018427387904 = 0 ∨ addE L 4611686018427387904 = 110 := by
      unfold addE
      rw [if_neg (by decide)]
      cases (lk L 4611686018427387904).isSome
      · exact .inl rfl
      · exact .inr rfl
    go_wp2_with fail
    refine (add_at R bm B _ L 4611686018427387904 now none 0 0 [] _ FXH.out.2 (by unfold i64; omega) (by unfold i64; omega) (RowV.rd (RowV.nil 5 0 w3)) (by simp)).mono ?_
    rintro e w4 ⟨rfl, q4⟩
    have B4 : Hid (Below w.heap.size w w4) := by
      rcases q4 with ⟨_, p⟩ | ⟨_, _, _, B', x, p, _⟩
      · exact kp_below FXH.out.1.bel rfl FXH.out.1.ge p.k
      · exact kp_below FXH.out.1.bel rfl FXH.out.1.ge p.k
    clear q4
    rcases A1 with A1 | A1
    · rw [A1]
      go_wp2_with fail
      go_ret
      exact ⟨rfl, B4.out⟩
    · rw [A1]
      go_wp2_with fail
      go_ret
      exact ⟨rfl, B4.out⟩
  obtain ⟨hC0, hC1, hC2⟩ := CG.out hg
  rw [← hC0] at PA
  clear CG hg hC0
  have hn2 : n2 ≤ 2000 := by have := D3.out; omega
  obtain ⟨CN, hCN⟩ : ∃ CN : Nat, C = (CN : Int) := ⟨C.toNat, by omega⟩
  subst hCN
  have b2' : i0.bytes * n2 ≤ 281474976710656 := by rw [hz2]; omega
  have b3' : n2 ≤ maxLen := by unfold maxLen; omega
  go_upto_region 9 with (refine wpList_make_full _ rfl (.tmp 38) (.tmp 38) 22 rfl w3.heap.size 3 i0 (.int .i64 0) 1 Try.underlying22 hi hz0 hz1 .i64 .i64 _ _ n2 rfl rfl rfl rfl b2' b3' (Nat.le_refl _) ?_; intro w4 r4 g4)
  have W4 : Hid (WS R bm B (rul l hs) L w3 n2 (List.replicate n2 0) w4 ∧ Wn qs L now CN 1 (List.replicate n2 0)) := by
    have b4 := below_none g4
    refine ⟨⟨FXH.out.2.below b4, Kp.of_below b4 _, ?_⟩, ?_⟩
    · rw [zerosI] at r4
      unfold RowV
      rw [List.length_map, List.length_replicate]
      exact r4
    · rw [D3.out.2.2.1]
      exact Wn.start (cp_of_core D3.out.1) FXH.out.2.rise D3.out.2.2.2.2
  clear r4 g4 b2' b3'
  go_wp2_with fail
  go_loopw [10] (fun v10 wr => ∃ k : Nat, ∃ L sn, v10 = .int .i64 (k : Int) ∧ 1 ≤ k ∧ k ≤ CN + 1 ∧ Hid (WS R bm B (rul l hs) L w3 n2 sn wr ∧ Wn qs L now CN k sn ∧ Lim (2000 + k) L)) (fun v10 _ => CN + 1 - (intOf v10).toNat)
  case atStart => exact ⟨1, L, _, rfl, by omega, by omega, W4.out.1, W4.out.2, D3.out.2.2.2.1.mono (by omega)⟩
  case round =>
    obtain ⟨k, L1, sn, rfl, hk1, hk2, D⟩ := hrel
    clear W4
    have c15 := (FXH.out.1.polk D.out.1.k).cell 15 _ PA.out
    have ltQ := (FXH.out.1.polk D.out.1.k).lt
    by_cases hlt : (k : Int) ≤ (CN : Int)
    · have hn : -9223372036854775808 ≤ now + (k : Int) ∧ now + (k : Int) ≤ 9223372036854775807 := by omega
      have HNW : Hid (i64 (now + (k : Int))) := hn
      have LL : Hid (L1.length ≤ 2000) := by
        have h1 : L1.length = qs.length := by have := congrArg List.length D.out.2.1.ids; simpa [cpL] using this
        have := D3.out.2.1
        show _ ≤ _
        omega
      go_wp2_with fail
      refine (due_at R bm B _ L1 _ _ D.out.1.box (by have := LL.out; omega) HNW.out (fun e he => by have := D.out.2.2.2 e he; omega)).mono ?_
      rintro e w5 ⟨a5, n5, c5, ps, rfl, o5, q5, p5⟩
      obtain ⟨Z5, hZ5⟩ : ∃ Z5, wr.heap.size = Z5 := ⟨_, rfl⟩
      have P5 : Hid (WS R bm B (rul l hs) (after (boL (rul l hs) []) (now + (k : Int)) L1) w3 n2 sn w5 ∧ OutP Z5 w5 (.slice a5 n5 c5) ps ∧ ps.map (fun p => (p.id, p.bs)) = (dueL L1 (now + (k : Int))).map (fun x => (x.id, x.bs)) ∧ n5 = ps.length ∧ ps.length ≤ 2000 ∧ w3.heap.size < Z5) := by
        refine ⟨D.out.1.post p5, hZ5 ▸ o5, q5, o5.n, ?_, ?_⟩
        · have h1 : ps.length = (dueL L1 (now + (k : Int))).length := by simpa using congrArg List.length q5
          have h2 : (dueL L1 (now + (k : Int))).length ≤ L1.length := List.length_filter_le ..
          have := LL.out
          omega
        · rw [← hZ5]
          rcases D.out.1.row.2 with ⟨e, _⟩ | ⟨g', cap, cur, e, _, hh, _⟩
          · cases e
          · injection e with e _ _
            injection e with e
            injection e with e
            rw [e]
            exact (Array.getElem?_eq_some_iff.1 hh).1
      have DW : Hid (Wn qs L1 now CN k sn ∧ Lim (2000 + k) L1) := D.out.2
      have n59 : n5 ≤ 2000 := by have := P5.out.2.2.2; omega
      clear o5 q5 p5 hZ5 D c15 ltQ HNW hn
      go_wp2_with fail
      go_loopw [12] (fun v12 wr => ∃ j : Nat, ∃ sj, v12 = .int .i64 (j : Int) ∧ j ≤ n5 ∧ Hid (WS R bm B (rul l hs) (after (boL (rul l hs) []) (now + (k : Int)) L1) w3 n2 sj wr ∧ OutP Z5 wr (.slice a5 n5 c5) ps ∧ Wj qs L1 k ps sn j sj)) (fun v12 _ => n5 - (intOf v12).toNat)
      case atStart => exact ⟨0, sn, rfl, by omega, P5.out.1, P5.out.2.1, DW.out.1.inner⟩
      case round =>
        obtain ⟨j, sj, rfl, hj, D⟩ := hrel
        by_cases hjt : (j : Int) < (n5 : Int)
        · obtain ⟨p, hp⟩ : ∃ p, ps[j]? = some p := ⟨ps[j]'(by have := P5.out.2.2.2.1; omega), List.getElem?_eq_getElem _⟩
          obtain ⟨gp, rfl, lgp, cp0, cp1, cp2⟩ := row3_at D.out.2.1 hp
          have HP : Hid (ps[j]? = some p) := hp
          have BP : Hid (RdB wr p.bv p.bs ∧ p.bs.length ≤ 140737488351232) := by
            refine ⟨OutP.mem D.out.2.1 hp, ?_⟩
            have h1 : (p.id, p.bs) ∈ (dueL L1 (now + (k : Int))).map (fun x => (x.id, x.bs)) := by rw [← P5.out.2.2.1]; exact List.mem_map.2 ⟨p, List.mem_of_getElem? hp, rfl⟩
            obtain ⟨e, he, ee⟩ := List.mem_map.1 h1
            injection ee with _ ee
            rw [← ee]
            have := (P5.out.1.box.bd (if e.nx ≤ now + (k : Int) then sent (boL (rul l hs) []) (now + (k : Int)) e else e) (List.mem_map.2 ⟨e, (List.mem_filter.1 he).1, rfl⟩)).2
            split at this
            · exact this
            · exact this
          clear hp
          go_wp2_with fail
          refine (place_at qs _ p.id _ (FXH.out.1.heldk D.out.1.k) (by have := D3.out.2.1; omega)).mono ?_
          rintro e w6 ⟨hw6, r, rfl, hr | ⟨m, x, rfl, hm, hx⟩⟩
          · exfalso
            obtain ⟨x, hx, ex⟩ := due_in DW.out.1.ids P5.out.2.2.1 HP.out
            exact hr.2 x hx ex
          subst hw6
          have HM : Hid (qs[m]? = some x ∧ x.id = p.id) := ⟨hm, hx⟩
          have hml : m < n2 := by have h1 := (List.getElem?_eq_some_iff.1 hm).1; have := D3.out.2.2.1; omega
          obtain ⟨gh, oh, rfl, lgh, ch, rx, lx⟩ : ∃ g o, a2 = some ⟨g, o, none⟩ ∧ g < w6.heap.size ∧ w6.cell? ⟨g, o + m * 4 + 3, none⟩ = some x.bv ∧ RdB w6 x.bv x.bs ∧ x.bs.length ≤ 140737488351232 := by
            obtain ⟨a', c', e, _, H⟩ := FXH.out.1.heldk D.out.1.k
            obtain ⟨g, o, e1, lt, h1, h2, h3⟩ := H m x hm
            injection e with e _ _
            exact ⟨g, o, by rw [e, e1], lt, h1 3 _ rfl, h2, h3⟩
          have SA : Hid (∀ w', Below w6.heap.size w6 w' → Calls Try.prog 19 #[p.bv, x.bv] w' fun e w'' => e = .returned (.bool true) ∧ Below w6.heap.size w6 w'') := fun w' b' => by
            have eb : p.bs = x.bs := due_bs DW.out.1.ids DW.out.1.rise P5.out.2.2.1 HP.out HM.out.1 HM.out.2
            refine (eq_at p.bs x.bs _ _ w' (by have := BP.out.2; omega) (Rd.later BP.out.1 b') (Rd.later rx b')).mono ?_
            rintro e w'' ⟨rfl, b''⟩
            exact ⟨by rw [decide_eq_true eb], below_trans b' b''⟩
          have S0 : Hid (Below w6.heap.size w6 w6.drew) := Below.drew (Below.refl _ _)
          have D6 : Hid (WS R bm B (rul l hs) (after (boL (rul l hs) []) (now + (k : Int)) L1) w3 n2 sj w6 ∧ OutP Z5 w6 (.slice (some ⟨gp, 0, none⟩) n5 c5) ps ∧ Wj qs L1 k ps sn j sj) := D.out
          clear hm hx rx lx D
          by_cases hj0 : (j : Int) > 0
          · obtain ⟨i1, hi1⟩ : ∃ i1 : Nat, j = i1 + 1 := ⟨j - 1, by omega⟩
            obtain ⟨q0, hq0⟩ : ∃ q0, ps[i1]? = some q0 := ⟨ps[i1]'(by have := P5.out.2.2.2.1; omega), List.getElem?_eq_getElem _⟩
            have cq : w6.cell? ⟨gp, i1 * 3 + 1, none⟩ = some (.int .i64 q0.id) := by
              obtain ⟨gp', eg, _, _, cq, _⟩ := row3_at D6.out.2.1 hq0
              injection eg with eg
              injection eg with eg
              subst eg
              exact cq
            have up : q0.id < p.id := due_up DW.out.1.rise P5.out.2.2.1 hq0 (by rw [← hi1]; exact HP.out)
            have e5 : decide (q0.id ≥ p.id) = false := decide_eq_false (by omega)
            have e6 : decide ((j : Int) > 0) = true := decide_eq_true hj0
            have hi2 : i1 < n5 := by omega
            have hi3 : (j : Int) - 1 = (i1 : Int) := by omega
            clear hq0 hi1
            have CX : Hid (∀ w', Below w6.heap.size w6 w' → w'.cell? ⟨gp, j * 3, none⟩ = some (.bool false) ∧ w'.cell? ⟨gp, j * 3 + 1, none⟩ = some (.int .i64 p.id) ∧ w'.cell? ⟨gp, j * 3 + 2, none⟩ = some p.bv ∧ w'.cell? ⟨gh, oh + m * 4 + 3, none⟩ = some x.bv ∧ w'.cell? ⟨gp, i1 * 3 + 1, none⟩ = some (.int .i64 q0.id)) := fun w' b' => ⟨(b'.cell (p := ⟨gp, j * 3, none⟩) lgp).trans cp0, (b'.cell (p := ⟨gp, j * 3 + 1, none⟩) lgp).trans cp1, (b'.cell (p := ⟨gp, j * 3 + 2, none⟩) lgp).trans cp2, (b'.cell (p := ⟨gh, oh + m * 4 + 3, none⟩) lgh).trans ch, (b'.cell (p := ⟨gp, i1 * 3 + 1, none⟩) lgp).trans cq⟩
            clear cp0 cp1 cp2 ch cq
            go_upto_region 17 with fail
            refine wp_region_held_drew (S := fun w' => Below w6.heap.size w6 w' ∧ w'.cell? ⟨gp, j * 3, none⟩ = some (.bool false) ∧ w'.cell? ⟨gp, j * 3 + 1, none⟩ = some (.int .i64 p.id) ∧ w'.cell? ⟨gp, j * 3 + 2, none⟩ = some p.bv ∧ w'.cell? ⟨gh, oh + m * 4 + 3, none⟩ = some x.bv ∧ w'.cell? ⟨gp, i1 * 3 + 1, none⟩ = some (.int .i64 q0.id)) (by kernel_rfl) (⟨S0.out, CX.out _ S0.out⟩) (fun hH => ?_)
            refine wpAnyH_take (i := 0) (oi := { dst := some 64, op := Op.move (Operand.tmp 13), type := 3, pos := "outright.go:120", after := #[], guard := none }) (v := .int .i64 (m : Int)) rfl (by kernel_rfl) (by kernel_rfl) (by kernel_rfl) (fun _ _ _ h => h) (Or.inl ⟨by rfl, fun w' hs => by go_simp⟩) hH ?_
            try simp only [Act.put, List.setIfInBounds_toArray, List.set_cons_zero, List.set_cons_succ]
            refine wpAnyH_take (i := 1) (oi := { dst := some 65, op := Op.binOp BinOp.lss 3 (Operand.tmp 64) (Operand.const (Value.int IntKind.i64 0)) 3, type := 4, pos := "outright.go:120", after := #[{ on := 0, ground := Ground.data }], guard := none }) (v := .bool false) rfl (by kernel_rfl) (by kernel_rfl) (by kernel_rfl) (fun _ _ _ h => h) (Or.inl ⟨by rfl, fun w' hs => by go_simp⟩) hH ?_
            try simp only [Act.put, List.setIfInBounds_toArray, List.set_cons_zero, List.set_cons_succ]
            refine wpAnyH_take (i := 2) (oi := { dst := some 66, op := Op.move (Operand.tmp 65), type := 4, pos := "outright.go:120", after := #[{ on := 1, ground := Ground.data }], guard := none }) (v := .bool false) rfl (by kernel_rfl) (by kernel_rfl) (by kernel_rfl) (fun _ _ _ h => h) (Or.inl ⟨by rfl, fun w' hs => by go_simp⟩) hH ?_
            try simp only [Act.put, List.setIfInBounds_toArray, List.set_cons_zero, List.set_cons_succ]
            refine wpAnyH_take (i := 3) (oi := { dst := some 67, op := Op.move (Operand.tmp 11), type := 33, pos := "outright.go:120", after := #[{ on := 2, ground := Ground.guard }], guard := some (2, false) }) (v := .slice (some ⟨gp, 0, none⟩) n5 c5) rfl (by kernel_rfl) (by kernel_rfl) (by kernel_rfl) (fun _ _ _ h => h) (Or.inl ⟨by rfl, fun w' hs => by go_simp⟩) hH ?_
            try simp only [Act.put, List.setIfInBounds_toArray, List.set_cons_zero, List.set_cons_succ]
            refine wpAnyH_take (i := 4) (oi := { dst := some 68, op := Op.move (Operand.tmp 12), type := 3, pos := "outright.go:120", after := #[{ on := 2, ground := Ground.guard }], guard := some (2, false) }) (v := .int .i64 (j : Int)) rfl (by kernel_rfl) (by kernel_rfl) (by kernel_rfl) (fun _ _ _ h => h) (Or.inl ⟨by rfl, fun w' hs => by go_simp⟩) hH ?_
            try simp only [Act.put, List.setIfInBounds_toArray, List.set_cons_zero, List.set_cons_succ]
            refine wpAnyH_take (i := 5) (oi := { dst := some 69, op := Op.indexAddr 33 (Operand.tmp 67) (Operand.tmp 68), type := 0, pos := "outright.go:120", after := #[{ on := 3, ground := Ground.data }, { on := 4, ground := Ground.data }, { on := 2, ground := Ground.guard }], guard := some (2, false) }) (v := .pointer (some ⟨gp, j * 3, none⟩)) rfl (by kernel_rfl) (by kernel_rfl) (by kernel_rfl) (fun _ _ _ h => h) (Or.inl ⟨by rfl, fun w' hs => by go_simp⟩) hH ?_
            try simp only [Act.put, List.setIfInBounds_toArray, List.set_cons_zero, List.set_cons_succ]
            refine wpAnyH_take (i := 6) (oi := { dst := some 70, op := Op.fieldAddr 44 (Operand.tmp 69) 0, type := 0, pos := "outright.go:120", after := #[{ on := 5, ground := Ground.data }, { on := 2, ground := Ground.guard }], guard := some (2, false) }) (v := .pointer (some ⟨gp, j * 3, none⟩)) rfl (by kernel_rfl) (by kernel_rfl) (by kernel_rfl) (fun _ _ _ h => h) (Or.inl ⟨by rfl, fun w' hs => by go_simp⟩) hH ?_
            try simp only [Act.put, List.setIfInBounds_toArray, List.set_cons_zero, List.set_cons_succ]
            refine wpAnyH_take (i := 7) (oi := { dst := some 71, op := Op.load 4 (Operand.tmp 70), type := 4, pos := "outright.go:120", after := #[{ on := 6, ground := Ground.data }, { on := 2, ground := Ground.guard }], guard := some (2, false) }) (v := .bool false) rfl (by kernel_rfl) (by kernel_rfl) (by kernel_rfl) (fun _ _ _ h => h) (Or.inl ⟨by rfl, fun w' hs => by have c := hs.2.1; go_simp⟩) hH ?_
            try simp only [Act.put, List.setIfInBounds_toArray, List.set_cons_zero, List.set_cons_succ]
            refine wpAnyH_take (i := 8) (oi := { dst := some 72, op := Op.pick (Operand.tmp 66) (Operand.const (Value.bool true)) (Operand.tmp 71), type := 4, pos := "outright.go:120", after := #[{ on := 2, ground := Ground.data }, { on := 7, ground := Ground.data }], guard := none }) (v := .bool false) rfl (by kernel_rfl) (by kernel_rfl) (by kernel_rfl) (fun _ _ _ h => h) (Or.inl ⟨by rfl, fun w' hs => by go_simp⟩) hH ?_
            try simp only [Act.put, List.setIfInBounds_toArray, List.set_cons_zero, List.set_cons_succ]
            refine wpAnyH_take (i := 9) (oi := { dst := some 73, op := Op.move (Operand.tmp 72), type := 4, pos := "outright.go:120", after := #[{ on := 8, ground := Ground.data }, { on := 2, ground := Ground.chain }], guard := none }) (v := .bool false) rfl (by kernel_rfl) (by kernel_rfl) (by kernel_rfl) (fun _ _ _ h => h) (Or.inl ⟨by rfl, fun w' hs => by go_simp⟩) hH ?_
            try simp only [Act.put, List.setIfInBounds_toArray, List.set_cons_zero, List.set_cons_succ]
            refine wpAnyH_take (i := 10) (oi := { dst := some 74, op := Op.move (Operand.tmp 11), type := 33, pos := "outright.go:120", after := #[{ on := 9, ground := Ground.guard }], guard := some (9, false) }) (v := .slice (some ⟨gp, 0, none⟩) n5 c5) rfl (by kernel_rfl) (by kernel_rfl) (by kernel_rfl) (fun _ _ _ h => h) (Or.inl ⟨by rfl, fun w' hs => by go_simp⟩) hH ?_
            try simp only [Act.put, List.setIfInBounds_toArray, List.set_cons_zero, List.set_cons_succ]
            refine wpAnyH_take (i := 11) (oi := { dst := some 75, op := Op.move (Operand.tmp 12), type := 3, pos := "outright.go:120", after := #[{ on := 9, ground := Ground.guard }], guard := some (9, false) }) (v := .int .i64 (j : Int)) rfl (by kernel_rfl) (by kernel_rfl) (by kernel_rfl) (fun _ _ _ h => h) (Or.inl ⟨by rfl, fun w' hs => by go_simp⟩) hH ?_
            try simp only [Act.put, List.setIfInBounds_toArray, List.set_cons_zero, List.set_cons_succ]
            refine wpAnyH_take (i := 12) (oi := { dst := some 76, op := Op.indexAddr 33 (Operand.tmp 74) (Operand.tmp 75), type := 0, pos := "outright.go:120", after := #[{ on := 10, ground := Ground.data }, { on := 11, ground := Ground.data }, { on := 9, ground := Ground.guard }], guard := some (9, false) }) (v := .pointer (some ⟨gp, j * 3, none⟩)) rfl (by kernel_rfl) (by kernel_rfl) (by kernel_rfl) (fun _ _ _ h => h) (Or.inl ⟨by rfl, fun w' hs => by go_simp⟩) hH ?_
            try simp only [Act.put, List.setIfInBounds_toArray, List.set_cons_zero, List.set_cons_succ]
            refine wpAnyH_take (i := 13) (oi := { dst := some 77, op := Op.fieldAddr 44 (Operand.tmp 76) 2, type := 0, pos := "outright.go:120", after := #[{ on := 12, ground := Ground.data }, { on := 9, ground := Ground.guard }], guard := some (9, false) }) (v := .pointer (some ⟨gp, j * 3 + 2, none⟩)) rfl (by kernel_rfl) (by kernel_rfl) (by kernel_rfl) (fun _ _ _ h => h) (Or.inl ⟨by rfl, fun w' hs => by go_simp⟩) hH ?_
            try simp only [Act.put, List.setIfInBounds_toArray, List.set_cons_zero, List.set_cons_succ]
            refine wpAnyH_take (i := 14) (oi := { dst := some 78, op := Op.load 25 (Operand.tmp 77), type := 25, pos := "outright.go:120", after := #[{ on := 13, ground := Ground.data }, { on := 9, ground := Ground.guard }], guard := some (9, false) }) (v := p.bv) rfl (by kernel_rfl) (by kernel_rfl) (by kernel_rfl) (fun _ _ _ h => h) (Or.inl ⟨by rfl, fun w' hs => by have c := hs.2.2.2.1; go_simp⟩) hH ?_
            try simp only [Act.put, List.setIfInBounds_toArray, List.set_cons_zero, List.set_cons_succ]
            refine wpAnyH_take (i := 15) (oi := { dst := some 79, op := Op.move (Operand.tmp 7), type := 36, pos := "outright.go:120", after := #[{ on := 9, ground := Ground.guard }], guard := some (9, false) }) (v := .slice (some ⟨gh, oh, none⟩) n2 c2) rfl (by kernel_rfl) (by kernel_rfl) (by kernel_rfl) (fun _ _ _ h => h) (Or.inl ⟨by rfl, fun w' hs => by go_simp⟩) hH ?_
            try simp only [Act.put, List.setIfInBounds_toArray, List.set_cons_zero, List.set_cons_succ]
            refine wpAnyH_take (i := 16) (oi := { dst := some 80, op := Op.move (Operand.tmp 13), type := 3, pos := "outright.go:120", after := #[{ on := 9, ground := Ground.guard }], guard := some (9, false) }) (v := .int .i64 (m : Int)) rfl (by kernel_rfl) (by kernel_rfl) (by kernel_rfl) (fun _ _ _ h => h) (Or.inl ⟨by rfl, fun w' hs => by go_simp⟩) hH ?_
            try simp only [Act.put, List.setIfInBounds_toArray, List.set_cons_zero, List.set_cons_succ]
            refine wpAnyH_take (i := 17) (oi := { dst := some 81, op := Op.indexAddr 36 (Operand.tmp 79) (Operand.tmp 80), type := 0, pos := "outright.go:120", after := #[{ on := 15, ground := Ground.data }, { on := 16, ground := Ground.data }, { on := 9, ground := Ground.guard }], guard := some (9, false) }) (v := .pointer (some ⟨gh, oh + m * 4, none⟩)) rfl (by kernel_rfl) (by kernel_rfl) (by kernel_rfl) (fun _ _ _ h => h) (Or.inl ⟨by rfl, fun w' hs => by go_simp⟩) hH ?_
            try simp only [Act.put, List.setIfInBounds_toArray, List.set_cons_zero, List.set_cons_succ]
            refine wpAnyH_take (i := 18) (oi := { dst := some 82, op := Op.fieldAddr 47 (Operand.tmp 81) 3, type := 0, pos := "outright.go:120", after := #[{ on := 17, ground := Ground.data }, { on := 9, ground := Ground.guard }], guard := some (9, false) }) (v := .pointer (some ⟨gh, oh + m * 4 + 3, none⟩)) rfl (by kernel_rfl) (by kernel_rfl) (by kernel_rfl) (fun _ _ _ h => h) (Or.inl ⟨by rfl, fun w' hs => by go_simp⟩) hH ?_
            try simp only [Act.put, List.setIfInBounds_toArray, List.set_cons_zero, List.set_cons_succ]
            refine wpAnyH_take (i := 19) (oi := { dst := some 83, op := Op.load 25 (Operand.tmp 82), type := 25, pos := "outright.go:120", after := #[{ on := 18, ground := Ground.data }, { on := 9, ground := Ground.guard }], guard := some (9, false) }) (v := x.bv) rfl (by kernel_rfl) (by kernel_rfl) (by kernel_rfl) (fun _ _ _ h => h) (Or.inl ⟨by rfl, fun w' hs => by have c := hs.2.2.2.2.1; go_simp⟩) hH ?_
            try simp only [Act.put, List.setIfInBounds_toArray, List.set_cons_zero, List.set_cons_succ]
            refine wpAnyH_ready (rs := [20]) (by kernel_rfl) (by simp) ?_
            refine AllReadyH.cons (o := { dst := some 84, op := Op.call { callee := Callee.value (Operand.func 19), args := #[Operand.tmp 78, Operand.tmp 83], argTypes := #[25, 25] }, type := 4, pos := "outright.go:120", after := #[{ on := 14, ground := Ground.data }, { on := 19, ground := Ground.data }, { on := 9, ground := Ground.chain }, { on := 9, ground := Ground.guard }], guard := some (9, false) }) rfl (fun Kx hK => ?_) AllReadyH.nil
            go_simp
            refine (SA.out _ S0.out).mono ?_
            rintro e w7 ⟨rfl, b2⟩
            have B2 : Hid (Below w6.heap.size w6 w7) := b2
            clear b2
            refine hK.out _ _ ⟨B2.out, CX.out _ B2.out⟩ (fun hH => ?_)
            try simp only [Act.put, List.setIfInBounds_toArray, List.set_cons_zero, List.set_cons_succ]
            refine wpAnyH_take (i := 21) (oi := { dst := some 85, op := Op.unOp UnOp.not 4 (Operand.tmp 84), type := 4, pos := "outright.go:120", after := #[{ on := 20, ground := Ground.data }, { on := 9, ground := Ground.guard }], guard := some (9, false) }) (v := .bool false) rfl (by kernel_rfl) (by kernel_rfl) (by kernel_rfl) (fun _ _ _ h => h) (Or.inl ⟨by rfl, fun w' hs => by go_simp⟩) hH ?_
            try simp only [Act.put, List.setIfInBounds_toArray, List.set_cons_zero, List.set_cons_succ]
            refine wpAnyH_take (i := 22) (oi := { dst := some 86, op := Op.pick (Operand.tmp 73) (Operand.const (Value.bool true)) (Operand.tmp 85), type := 4, pos := "outright.go:120", after := #[{ on := 9, ground := Ground.data }, { on := 21, ground := Ground.data }], guard := none }) (v := .bool false) rfl (by kernel_rfl) (by kernel_rfl) (by kernel_rfl) (fun _ _ _ h => h) (Or.inl ⟨by rfl, fun w' hs => by go_simp⟩) hH ?_
            try simp only [Act.put, List.setIfInBounds_toArray, List.set_cons_zero, List.set_cons_succ]
            refine wpAnyH_take (i := 23) (oi := { dst := some 87, op := Op.move (Operand.tmp 86), type := 4, pos := "outright.go:120", after := #[{ on := 22, ground := Ground.data }, { on := 20, ground := Ground.chain }], guard := none }) (v := .bool false) rfl (by kernel_rfl) (by kernel_rfl) (by kernel_rfl) (fun _ _ _ h => h) (Or.inl ⟨by rfl, fun w' hs => by go_simp⟩) hH ?_
            try simp only [Act.put, List.setIfInBounds_toArray, List.set_cons_zero, List.set_cons_succ]
            refine wpAnyH_take (i := 24) (oi := { dst := some 88, op := Op.move (Operand.tmp 12), type := 3, pos := "outright.go:120", after := #[{ on := 23, ground := Ground.guard }], guard := some (23, false) }) (v := .int .i64 (j : Int)) rfl (by kernel_rfl) (by kernel_rfl) (by kernel_rfl) (fun _ _ _ h => h) (Or.inl ⟨by rfl, fun w' hs => by go_simp⟩) hH ?_
            try simp only [Act.put, List.setIfInBounds_toArray, List.set_cons_zero, List.set_cons_succ]
            refine wpAnyH_take (i := 25) (oi := { dst := some 89, op := Op.binOp BinOp.gtr 3 (Operand.tmp 88) (Operand.const (Value.int IntKind.i64 0)) 3, type := 4, pos := "outright.go:120", after := #[{ on := 24, ground := Ground.data }, { on := 23, ground := Ground.guard }], guard := some (23, false) }) (v := .bool true) rfl (by kernel_rfl) (by kernel_rfl) (by kernel_rfl) (fun _ _ _ h => h) (Or.inl ⟨by rfl, fun w' hs => by go_simp; omega⟩) hH ?_
            try simp only [Act.put, List.setIfInBounds_toArray, List.set_cons_zero, List.set_cons_succ]
            refine wpAnyH_take (i := 26) (oi := { dst := some 90, op := Op.move (Operand.tmp 89), type := 4, pos := "outright.go:120", after := #[{ on := 25, ground := Ground.data }, { on := 23, ground := Ground.chain }, { on := 23, ground := Ground.guard }], guard := some (23, false) }) (v := .bool true) rfl (by kernel_rfl) (by kernel_rfl) (by kernel_rfl) (fun _ _ _ h => h) (Or.inl ⟨by rfl, fun w' hs => by go_simp⟩) hH ?_
            try simp only [Act.put, List.setIfInBounds_toArray, List.set_cons_zero, List.set_cons_succ]
            refine wpAnyH_take (i := 27) (oi := { dst := some 91, op := Op.move (Operand.tmp 11), type := 33, pos := "outright.go:120", after := #[{ on := 26, ground := Ground.guard }], guard := some (26, true) }) (v := .slice (some ⟨gp, 0, none⟩) n5 c5) rfl (by kernel_rfl) (by kernel_rfl) (by kernel_rfl) (fun _ _ _ h => h) (Or.inl ⟨by rfl, fun w' hs => by go_simp⟩) hH ?_
            try simp only [Act.put, List.setIfInBounds_toArray, List.set_cons_zero, List.set_cons_succ]
            refine wpAnyH_take (i := 28) (oi := { dst := some 92, op := Op.move (Operand.tmp 12), type := 3, pos := "outright.go:120", after := #[{ on := 26, ground := Ground.guard }], guard := some (26, true) }) (v := .int .i64 (j : Int)) rfl (by kernel_rfl) (by kernel_rfl) (by kernel_rfl) (fun _ _ _ h => h) (Or.inl ⟨by rfl, fun w' hs => by go_simp⟩) hH ?_
            try simp only [Act.put, List.setIfInBounds_toArray, List.set_cons_zero, List.set_cons_succ]
            refine wpAnyH_take (i := 29) (oi := { dst := some 93, op := Op.binOp BinOp.sub 3 (Operand.tmp 92) (Operand.const (Value.int IntKind.i64 1)) 3, type := 3, pos := "outright.go:120", after := #[{ on := 28, ground := Ground.data }, { on := 26, ground := Ground.guard }], guard := some (26, true) }) (v := .int .i64 (i1 : Int)) rfl (by kernel_rfl) (by kernel_rfl) (by kernel_rfl) (fun _ _ _ h => h) (Or.inl ⟨by rfl, fun w' hs => by go_simp; rw [IntKind.wrap_i64]; omega⟩) hH ?_
            try simp only [Act.put, List.setIfInBounds_toArray, List.set_cons_zero, List.set_cons_succ]
            refine wpAnyH_take (i := 30) (oi := { dst := some 94, op := Op.indexAddr 33 (Operand.tmp 91) (Operand.tmp 93), type := 0, pos := "outright.go:120", after := #[{ on := 27, ground := Ground.data }, { on := 29, ground := Ground.data }, { on := 26, ground := Ground.guard }], guard := some (26, true) }) (v := .pointer (some ⟨gp, i1 * 3, none⟩)) rfl (by kernel_rfl) (by kernel_rfl) (by kernel_rfl) (fun _ _ _ h => h) (Or.inl ⟨by rfl, fun w' hs => by go_simp⟩) hH ?_
            try simp only [Act.put, List.setIfInBounds_toArray, List.set_cons_zero, List.set_cons_succ]
            refine wpAnyH_take (i := 31) (oi := { dst := some 95, op := Op.fieldAddr 44 (Operand.tmp 94) 1, type := 0, pos := "outright.go:120", after := #[{ on := 30, ground := Ground.data }, { on := 26, ground := Ground.guard }], guard := some (26, true) }) (v := .pointer (some ⟨gp, i1 * 3 + 1, none⟩)) rfl (by kernel_rfl) (by kernel_rfl) (by kernel_rfl) (fun _ _ _ h => h) (Or.inl ⟨by rfl, fun w' hs => by go_simp⟩) hH ?_
            try simp only [Act.put, List.setIfInBounds_toArray, List.set_cons_zero, List.set_cons_succ]
            refine wpAnyH_take (i := 32) (oi := { dst := some 96, op := Op.load 3 (Operand.tmp 95), type := 3, pos := "outright.go:120", after := #[{ on := 31, ground := Ground.data }, { on := 26, ground := Ground.guard }], guard := some (26, true) }) (v := .int .i64 q0.id) rfl (by kernel_rfl) (by kernel_rfl) (by kernel_rfl) (fun _ _ _ h => h) (Or.inl ⟨by rfl, fun w' hs => by have c := hs.2.2.2.2.2; go_simp⟩) hH ?_
            try simp only [Act.put, List.setIfInBounds_toArray, List.set_cons_zero, List.set_cons_succ]
            refine wpAnyH_take (i := 33) (oi := { dst := some 97, op := Op.move (Operand.tmp 11), type := 33, pos := "outright.go:120", after := #[{ on := 26, ground := Ground.guard }], guard := some (26, true) }) (v := .slice (some ⟨gp, 0, none⟩) n5 c5) rfl (by kernel_rfl) (by kernel_rfl) (by kernel_rfl) (fun _ _ _ h => h) (Or.inl ⟨by rfl, fun w' hs => by go_simp⟩) hH ?_
            try simp only [Act.put, List.setIfInBounds_toArray, List.set_cons_zero, List.set_cons_succ]
            refine wpAnyH_take (i := 34) (oi := { dst := some 98, op := Op.move (Operand.tmp 12), type := 3, pos := "outright.go:120", after := #[{ on := 26, ground := Ground.guard }], guard := some (26, true) }) (v := .int .i64 (j : Int)) rfl (by kernel_rfl) (by kernel_rfl) (by kernel_rfl) (fun _ _ _ h => h) (Or.inl ⟨by rfl, fun w' hs => by go_simp⟩) hH ?_
            try simp only [Act.put, List.setIfInBounds_toArray, List.set_cons_zero, List.set_cons_succ]
            refine wpAnyH_take (i := 35) (oi := { dst := some 99, op := Op.indexAddr 33 (Operand.tmp 97) (Operand.tmp 98), type := 0, pos := "outright.go:120", after := #[{ on := 33, ground := Ground.data }, { on := 34, ground := Ground.data }, { on := 26, ground := Ground.guard }], guard := some (26, true) }) (v := .pointer (some ⟨gp, j * 3, none⟩)) rfl (by kernel_rfl) (by kernel_rfl) (by kernel_rfl) (fun _ _ _ h => h) (Or.inl ⟨by rfl, fun w' hs => by go_simp⟩) hH ?_
            try simp only [Act.put, List.setIfInBounds_toArray, List.set_cons_zero, List.set_cons_succ]
            refine wpAnyH_take (i := 36) (oi := { dst := some 100, op := Op.fieldAddr 44 (Operand.tmp 99) 1, type := 0, pos := "outright.go:120", after := #[{ on := 35, ground := Ground.data }, { on := 26, ground := Ground.guard }], guard := some (26, true) }) (v := .pointer (some ⟨gp, j * 3 + 1, none⟩)) rfl (by kernel_rfl) (by kernel_rfl) (by kernel_rfl) (fun _ _ _ h => h) (Or.inl ⟨by rfl, fun w' hs => by go_simp⟩) hH ?_
            try simp only [Act.put, List.setIfInBounds_toArray, List.set_cons_zero, List.set_cons_succ]
            refine wpAnyH_take (i := 37) (oi := { dst := some 101, op := Op.load 3 (Operand.tmp 100), type := 3, pos := "outright.go:120", after := #[{ on := 36, ground := Ground.data }, { on := 26, ground := Ground.guard }], guard := some (26, true) }) (v := .int .i64 p.id) rfl (by kernel_rfl) (by kernel_rfl) (by kernel_rfl) (fun _ _ _ h => h) (Or.inl ⟨by rfl, fun w' hs => by have c := hs.2.2.1; go_simp⟩) hH ?_
            try simp only [Act.put, List.setIfInBounds_toArray, List.set_cons_zero, List.set_cons_succ]
            refine wpAnyH_take (i := 38) (oi := { dst := some 102, op := Op.binOp BinOp.geq 3 (Operand.tmp 96) (Operand.tmp 101) 3, type := 4, pos := "outright.go:120", after := #[{ on := 32, ground := Ground.data }, { on := 37, ground := Ground.data }, { on := 26, ground := Ground.guard }], guard := some (26, true) }) (v := .bool false) rfl (by kernel_rfl) (by kernel_rfl) (by kernel_rfl) (fun _ _ _ h => h) (Or.inl ⟨by rfl, fun w' hs => by go_simp⟩) hH ?_
            try simp only [Act.put, List.setIfInBounds_toArray, List.set_cons_zero, List.set_cons_succ]
            refine wpAnyH_take (i := 39) (oi := { dst := some 103, op := Op.pick (Operand.tmp 90) (Operand.tmp 102) (Operand.const (Value.bool false)), type := 4, pos := "outright.go:120", after := #[{ on := 26, ground := Ground.data }, { on := 38, ground := Ground.data }, { on := 23, ground := Ground.guard }], guard := some (23, false) }) (v := .bool false) rfl (by kernel_rfl) (by kernel_rfl) (by kernel_rfl) (fun _ _ _ h => h) (Or.inl ⟨by rfl, fun w' hs => by go_simp⟩) hH ?_
            try simp only [Act.put, List.setIfInBounds_toArray, List.set_cons_zero, List.set_cons_succ]
            refine wpAnyH_take (i := 40) (oi := { dst := some 104, op := Op.pick (Operand.tmp 87) (Operand.const (Value.bool true)) (Operand.tmp 103), type := 4, pos := "outright.go:120", after := #[{ on := 23, ground := Ground.data }, { on := 39, ground := Ground.data }], guard := none }) (v := .bool false) rfl (by kernel_rfl) (by kernel_rfl) (by kernel_rfl) (fun _ _ _ h => h) (Or.inl ⟨by rfl, fun w' hs => by go_simp⟩) hH ?_
            try simp only [Act.put, List.setIfInBounds_toArray, List.set_cons_zero, List.set_cons_succ]
            refine wpAnyH_done (by kernel_rfl) ?_ _
            clear hH hK
            have D7 : Hid (WS R bm B (rul l hs) (after (boL (rul l hs) []) (now + (k : Int)) L1) w3 n2 sj w7 ∧ OutP Z5 w7 (.slice (some ⟨gp, 0, none⟩) n5 c5) ps ∧ Wj qs L1 k ps sn j sj) := ⟨D6.out.1.below B2.out, D6.out.2.1.below B2.out, D6.out.2.2⟩
            clear B2 D6 CX SA S0 BP
            obtain ⟨v, hv⟩ : ∃ v, sj[m]? = some v := ⟨sj[m]'(by have := D7.out.2.2.len; have := D3.out.2.2.1; omega), List.getElem?_eq_getElem _⟩
            have vb := D7.out.2.2.bnd m v hv
            have cv : w7.cell? ⟨w3.heap.size, m, none⟩ = some (.int .i64 v) := by
              obtain ⟨g', o', e1, _, e2⟩ := rd_at2 (RowV.rd D7.out.1.row) (i := m) (u := iv v) (by rw [List.getElem?_map, hv]; rfl)
              injection e1 with e1
              injection e1 with e1 e3
              subst e1 e3
              rw [Nat.zero_add] at e2
              exact e2
            have fv : w7.frozen? ⟨w3.heap.size, m, none⟩ = false := by
              rcases D7.out.1.row.2 with ⟨e, _⟩ | ⟨g', cap, cur, e, _, hh, _⟩
              · cases e
              · injection e with e _ _
                injection e with e
                injection e with e
                subst e
                simp [World.frozen?, hh]
            have lv : w3.heap.size < w7.heap.size := World.block_lt_of_cell? _ _ cv
            have W8 : Hid (Wj qs L1 k ps sn (j + 1) (sj.set m (v + 1))) := D7.out.2.2.step DW.out.1 HP.out HM.out.1 HM.out.2 hv
            clear hv
            go_wp2_with fail
            have D8 : Hid (WS R bm B (rul l hs) (after (boL (rul l hs) []) (now + (k : Int)) L1) w3 n2 (sj.set m (v + 1)) (w7.setCell ⟨w3.heap.size, m, none⟩ (.int .i64 (v + 1))) ∧ OutP Z5 (w7.setCell ⟨w3.heap.size, m, none⟩ (.int .i64 (v + 1))) (.slice (some ⟨gp, 0, none⟩) n5 c5) ps) := ⟨D7.out.1.mark FXH.out.1.r FXH.out.1.m FXH.out.1.b m (v + 1), D7.out.2.1.kp (Kp.of_grown (setCell_grown w7 w3.heap.size m (.int .i64 (v + 1)))) (fun g hg q => by injection q with q; have := P5.out.2.2.2.2.2; omega)⟩
            go_roundw
            case rel => exact ⟨j + 1, _, by go_num, by omega, D8.out.1, D8.out.2, W8.out⟩
            case measure => simp [intOf]; omega
          · have e6 : decide ((j : Int) > 0) = false := decide_eq_false hj0
            have CX : Hid (∀ w', Below w6.heap.size w6 w' → w'.cell? ⟨gp, j * 3, none⟩ = some (.bool false) ∧ w'.cell? ⟨gp, j * 3 + 1, none⟩ = some (.int .i64 p.id) ∧ w'.cell? ⟨gp, j * 3 + 2, none⟩ = some p.bv ∧ w'.cell? ⟨gh, oh + m * 4 + 3, none⟩ = some x.bv) := fun w' b' => ⟨(b'.cell (p := ⟨gp, j * 3, none⟩) lgp).trans cp0, (b'.cell (p := ⟨gp, j * 3 + 1, none⟩) lgp).trans cp1, (b'.cell (p := ⟨gp, j * 3 + 2, none⟩) lgp).trans cp2, (b'.cell (p := ⟨gh, oh + m * 4 + 3, none⟩) lgh).trans ch⟩
            clear cp0 cp1 cp2 ch
            go_upto_region 17 with fail
            refine wp_region_held_drew (S := fun w' => Below w6.heap.size w6 w' ∧ w'.cell? ⟨gp, j * 3, none⟩ = some (.bool false) ∧ w'.cell? ⟨gp, j * 3 + 1, none⟩ = some (.int .i64 p.id) ∧ w'.cell? ⟨gp, j * 3 + 2, none⟩ = some p.bv ∧ w'.cell? ⟨gh, oh + m * 4 + 3, none⟩ = some x.bv) (by kernel_rfl) (⟨S0.out, CX.out _ S0.out⟩) (fun hH => ?_)
            refine wpAnyH_take (i := 0) (oi := { dst := some 64, op := Op.move (Operand.tmp 13), type := 3, pos := "outright.go:120", after := #[], guard := none }) (v := .int .i64 (m : Int)) rfl (by kernel_rfl) (by kernel_rfl) (by kernel_rfl) (fun _ _ _ h => h) (Or.inl ⟨by rfl, fun w' hs => by go_simp⟩) hH ?_
            try simp only [Act.put, List.setIfInBounds_toArray, List.set_cons_zero, List.set_cons_succ]
            refine wpAnyH_take (i := 1) (oi := { dst := some 65, op := Op.binOp BinOp.lss 3 (Operand.tmp 64) (Operand.const (Value.int IntKind.i64 0)) 3, type := 4, pos := "outright.go:120", after := #[{ on := 0, ground := Ground.data }], guard := none }) (v := .bool false) rfl (by kernel_rfl) (by kernel_rfl) (by kernel_rfl) (fun _ _ _ h => h) (Or.inl ⟨by rfl, fun w' hs => by go_simp⟩) hH ?_
            try simp only [Act.put, List.setIfInBounds_toArray, List.set_cons_zero, List.set_cons_succ]
            refine wpAnyH_take (i := 2) (oi := { dst := some 66, op := Op.move (Operand.tmp 65), type := 4, pos := "outright.go:120", after := #[{ on := 1, ground := Ground.data }], guard := none }) (v := .bool false) rfl (by kernel_rfl) (by kernel_rfl) (by kernel_rfl) (fun _ _ _ h => h) (Or.inl ⟨by rfl, fun w' hs => by go_simp⟩) hH ?_
            try simp only [Act.put, List.setIfInBounds_toArray, List.set_cons_zero, List.set_cons_succ]
            refine wpAnyH_take (i := 3) (oi := { dst := some 67, op := Op.move (Operand.tmp 11), type := 33, pos := "outright.go:120", after := #[{ on := 2, ground := Ground.guard }], guard := some (2, false) }) (v := .slice (some ⟨gp, 0, none⟩) n5 c5) rfl (by kernel_rfl) (by kernel_rfl) (by kernel_rfl) (fun _ _ _ h => h) (Or.inl ⟨by rfl, fun w' hs => by go_simp⟩) hH ?_
            try simp only [Act.put, List.setIfInBounds_toArray, List.set_cons_zero, List.set_cons_succ]
            refine wpAnyH_take (i := 4) (oi := { dst := some 68, op := Op.move (Operand.tmp 12), type := 3, pos := "outright.go:120", after := #[{ on := 2, ground := Ground.guard }], guard := some (2, false) }) (v := .int .i64 (j : Int)) rfl (by kernel_rfl) (by kernel_rfl) (by kernel_rfl) (fun _ _ _ h => h) (Or.inl ⟨by rfl, fun w' hs => by go_simp⟩) hH ?_
            try simp only [Act.put, List.setIfInBounds_toArray, List.set_cons_zero, List.set_cons_succ]
            refine wpAnyH_take (i := 5) (oi := { dst := some 69, op := Op.indexAddr 33 (Operand.tmp 67) (Operand.tmp 68), type := 0, pos := "outright.go:120", after := #[{ on := 3, ground := Ground.data }, { on := 4, ground := Ground.data }, { on := 2, ground := Ground.guard }], guard := some (2, false) }) (v := .pointer (some ⟨gp, j * 3, none⟩)) rfl (by kernel_rfl) (by kernel_rfl) (by kernel_rfl) (fun _ _ _ h => h) (Or.inl ⟨by rfl, fun w' hs => by go_simp⟩) hH ?_
            try simp only [Act.put, List.setIfInBounds_toArray, List.set_cons_zero, List.set_cons_succ]
            refine wpAnyH_take (i := 6) (oi := { dst := some 70, op := Op.fieldAddr 44 (Operand.tmp 69) 0, type := 0, pos := "outright.go:120", after := #[{ on := 5, ground := Ground.data }, { on := 2, ground := Ground.guard }], guard := some (2, false) }) (v := .pointer (some ⟨gp, j * 3, none⟩)) rfl (by kernel_rfl) (by kernel_rfl) (by kernel_rfl) (fun _ _ _ h => h) (Or.inl ⟨by rfl, fun w' hs => by go_simp⟩) hH ?_
            try simp only [Act.put, List.setIfInBounds_toArray, List.set_cons_zero, List.set_cons_succ]
            refine wpAnyH_take (i := 7) (oi := { dst := some 71, op := Op.load 4 (Operand.tmp 70), type := 4, pos := "outright.go:120", after := #[{ on := 6, ground := Ground.data }, { on := 2, ground := Ground.guard }], guard := some (2, false) }) (v := .bool false) rfl (by kernel_rfl) (by kernel_rfl) (by kernel_rfl) (fun _ _ _ h => h) (Or.inl ⟨by rfl, fun w' hs => by have c := hs.2.1; go_simp⟩) hH ?_
            try simp only [Act.put, List.setIfInBounds_toArray, List.set_cons_zero, List.set_cons_succ]
            refine wpAnyH_take (i := 8) (oi := { dst := some 72, op := Op.pick (Operand.tmp 66) (Operand.const (Value.bool true)) (Operand.tmp 71), type := 4, pos := "outright.go:120", after := #[{ on := 2, ground := Ground.data }, { on := 7, ground := Ground.data }], guard := none }) (v := .bool false) rfl (by kernel_rfl) (by kernel_rfl) (by kernel_rfl) (fun _ _ _ h => h) (Or.inl ⟨by rfl, fun w' hs => by go_simp⟩) hH ?_
            try simp only [Act.put, List.setIfInBounds_toArray, List.set_cons_zero, List.set_cons_succ]
            refine wpAnyH_take (i := 9) (oi := { dst := some 73, op := Op.move (Operand.tmp 72), type := 4, pos := "outright.go:120", after := #[{ on := 8, ground := Ground.data }, { on := 2, ground := Ground.chain }], guard := none }) (v := .bool false) rfl (by kernel_rfl) (by kernel_rfl) (by kernel_rfl) (fun _ _ _ h => h) (Or.inl ⟨by rfl, fun w' hs => by go_simp⟩) hH ?_
            try simp only [Act.put, List.setIfInBounds_toArray, List.set_cons_zero, List.set_cons_succ]
            refine wpAnyH_take (i := 10) (oi := { dst := some 74, op := Op.move (Operand.tmp 11), type := 33, pos := "outright.go:120", after := #[{ on := 9, ground := Ground.guard }], guard := some (9, false) }) (v := .slice (some ⟨gp, 0, none⟩) n5 c5) rfl (by kernel_rfl) (by kernel_rfl) (by kernel_rfl) (fun _ _ _ h => h) (Or.inl ⟨by rfl, fun w' hs => by go_simp⟩) hH ?_
            try simp only [Act.put, List.setIfInBounds_toArray, List.set_cons_zero, List.set_cons_succ]
            refine wpAnyH_take (i := 11) (oi := { dst := some 75, op := Op.move (Operand.tmp 12), type := 3, pos := "outright.go:120", after := #[{ on := 9, ground := Ground.guard }], guard := some (9, false) }) (v := .int .i64 (j : Int)) rfl (by kernel_rfl) (by kernel_rfl) (by kernel_rfl) (fun _ _ _ h => h) (Or.inl ⟨by rfl, fun w' hs => by go_simp⟩) hH ?_
            try simp only [Act.put, List.setIfInBounds_toArray, List.set_cons_zero, List.set_cons_succ]
            refine wpAnyH_take (i := 12) (oi := { dst := some 76, op := Op.indexAddr 33 (Operand.tmp 74) (Operand.tmp 75), type := 0, pos := "outright.go:120", after := #[{ on := 10, ground := Ground.data }, { on := 11, ground := Ground.data }, { on := 9, ground := Ground.guard }], guard := some (9, false) }) (v := .pointer (some ⟨gp, j * 3, none⟩)) rfl (by kernel_rfl) (by kernel_rfl) (by kernel_rfl) (fun _ _ _ h => h) (Or.inl ⟨by rfl, fun w' hs => by go_simp⟩) hH ?_
            try simp only [Act.put, List.setIfInBounds_toArray, List.set_cons_zero, List.set_cons_succ]
            refine wpAnyH_take (i := 13) (oi := { dst := some 77, op := Op.fieldAddr 44 (Operand.tmp 76) 2, type := 0, pos := "outright.go:120", after := #[{ on := 12, ground := Ground.data }, { on := 9, ground := Ground.guard }], guard := some (9, false) }) (v := .pointer (some ⟨gp, j * 3 + 2, none⟩)) rfl (by kernel_rfl) (by kernel_rfl) (by kernel_rfl) (fun _ _ _ h => h) (Or.inl ⟨by rfl, fun w' hs => by go_simp⟩) hH ?_
            try simp only [Act.put, List.setIfInBounds_toArray, List.set_cons_zero, List.set_cons_succ]
            refine wpAnyH_take (i := 14) (oi := { dst := some 78, op := Op.load 25 (Operand.tmp 77), type := 25, pos := "outright.go:120", after := #[{ on := 13, ground := Ground.data }, { on := 9, ground := Ground.guard }], guard := some (9, false) }) (v := p.bv) rfl (by kernel_rfl) (by kernel_rfl) (by kernel_rfl) (fun _ _ _ h => h) (Or.inl ⟨by rfl, fun w' hs => by have c := hs.2.2.2.1; go_simp⟩) hH ?_
            try simp only [Act.put, List.setIfInBounds_toArray, List.set_cons_zero, List.set_cons_succ]
            refine wpAnyH_take (i := 15) (oi := { dst := some 79, op := Op.move (Operand.tmp 7), type := 36, pos := "outright.go:120", after := #[{ on := 9, ground := Ground.guard }], guard := some (9, false) }) (v := .slice (some ⟨gh, oh, none⟩) n2 c2) rfl (by kernel_rfl) (by kernel_rfl) (by kernel_rfl) (fun _ _ _ h => h) (Or.inl ⟨by rfl, fun w' hs => by go_simp⟩) hH ?_
            try simp only [Act.put, List.setIfInBounds_toArray, List.set_cons_zero, List.set_cons_succ]
            refine wpAnyH_take (i := 16) (oi := { dst := some 80, op := Op.move (Operand.tmp 13), type := 3, pos := "outright.go:120", after := #[{ on := 9, ground := Ground.guard }], guard := some (9, false) }) (v := .int .i64 (m : Int)) rfl (by kernel_rfl) (by kernel_rfl) (by kernel_rfl) (fun _ _ _ h => h) (Or.inl ⟨by rfl, fun w' hs => by go_simp⟩) hH ?_
            try simp only [Act.put, List.setIfInBounds_toArray, List.set_cons_zero, List.set_cons_succ]
            refine wpAnyH_take (i := 17) (oi := { dst := some 81, op := Op.indexAddr 36 (Operand.tmp 79) (Operand.tmp 80), type := 0, pos := "outright.go:120", after := #[{ on := 15, ground := Ground.data }, { on := 16, ground := Ground.data }, { on := 9, ground := Ground.guard }], guard := some (9, false) }) (v := .pointer (some ⟨gh, oh + m * 4, none⟩)) rfl (by kernel_rfl) (by kernel_rfl) (by kernel_rfl) (fun _ _ _ h => h) (Or.inl ⟨by rfl, fun w' hs => by go_simp⟩) hH ?_
            try simp only [Act.put, List.setIfInBounds_toArray, List.set_cons_zero, List.set_cons_succ]
            refine wpAnyH_take (i := 18) (oi := { dst := some 82, op := Op.fieldAddr 47 (Operand.tmp 81) 3, type := 0, pos := "outright.go:120", after := #[{ on := 17, ground := Ground.data }, { on := 9, ground := Ground.guard }], guard := some (9, false) }) (v := .pointer (some ⟨gh, oh + m * 4 + 3, none⟩)) rfl (by kernel_rfl) (by kernel_rfl) (by kernel_rfl) (fun _ _ _ h => h) (Or.inl ⟨by rfl, fun w' hs => by go_simp⟩) hH ?_
            try simp only [Act.put, List.setIfInBounds_toArray, List.set_cons_zero, List.set_cons_succ]
            refine wpAnyH_take (i := 19) (oi := { dst := some 83, op := Op.load 25 (Operand.tmp 82), type := 25, pos := "outright.go:120", after := #[{ on := 18, ground := Ground.data }, { on := 9, ground := Ground.guard }], guard := some (9, false) }) (v := x.bv) rfl (by kernel_rfl) (by kernel_rfl) (by kernel_rfl) (fun _ _ _ h => h) (Or.inl ⟨by rfl, fun w' hs => by have c := hs.2.2.2.2; go_simp⟩) hH ?_
            try simp only [Act.put, List.setIfInBounds_toArray, List.set_cons_zero, List.set_cons_succ]
            refine wpAnyH_ready (rs := [20]) (by kernel_rfl) (by simp) ?_
            refine AllReadyH.cons (o := { dst := some 84, op := Op.call { callee := Callee.value (Operand.func 19), args := #[Operand.tmp 78, Operand.tmp 83], argTypes := #[25, 25] }, type := 4, pos := "outright.go:120", after := #[{ on := 14, ground := Ground.data }, { on := 19, ground := Ground.data }, { on := 9, ground := Ground.chain }, { on := 9, ground := Ground.guard }], guard := some (9, false) }) rfl (fun Kx hK => ?_) AllReadyH.nil
            go_simp
            refine (SA.out _ S0.out).mono ?_
            rintro e w7 ⟨rfl, b2⟩
            have B2 : Hid (Below w6.heap.size w6 w7) := b2
            clear b2
            refine hK.out _ _ ⟨B2.out, CX.out _ B2.out⟩ (fun hH => ?_)
            try simp only [Act.put, List.setIfInBounds_toArray, List.set_cons_zero, List.set_cons_succ]
            refine wpAnyH_take (i := 21) (oi := { dst := some 85, op := Op.unOp UnOp.not 4 (Operand.tmp 84), type := 4, pos := "outright.go:120", after := #[{ on := 20, ground := Ground.data }, { on := 9, ground := Ground.guard }], guard := some (9, false) }) (v := .bool false) rfl (by kernel_rfl) (by kernel_rfl) (by kernel_rfl) (fun _ _ _ h => h) (Or.inl ⟨by rfl, fun w' hs => by go_simp⟩) hH ?_
            try simp only [Act.put, List.setIfInBounds_toArray, List.set_cons_zero, List.set_cons_succ]
            refine wpAnyH_take (i := 22) (oi := { dst := some 86, op := Op.pick (Operand.tmp 73) (Operand.const (Value.bool true)) (Operand.tmp 85), type := 4, pos := "outright.go:120", after := #[{ on := 9, ground := Ground.data }, { on := 21, ground := Ground.data }], guard := none }) (v := .bool false) rfl (by kernel_rfl) (by kernel_rfl) (by kernel_rfl) (fun _ _ _ h => h) (Or.inl ⟨by rfl, fun w' hs => by go_simp⟩) hH ?_
            try simp only [Act.put, List.setIfInBounds_toArray, List.set_cons_zero, List.set_cons_succ]
            refine wpAnyH_take (i := 23) (oi := { dst := some 87, op := Op.move (Operand.tmp 86), type := 4, pos := "outright.go:120", after := #[{ on := 22, ground := Ground.data }, { on := 20, ground := Ground.chain }], guard := none }) (v := .bool false) rfl (by kernel_rfl) (by kernel_rfl) (by kernel_rfl) (fun _ _ _ h => h) (Or.inl ⟨by rfl, fun w' hs => by go_simp⟩) hH ?_
            try simp only [Act.put, List.setIfInBounds_toArray, List.set_cons_zero, List.set_cons_succ]
            refine wpAnyH_take (i := 24) (oi := { dst := some 88, op := Op.move (Operand.tmp 12), type := 3, pos := "outright.go:120", after := #[{ on := 23, ground := Ground.guard }], guard := some (23, false) }) (v := .int .i64 (j : Int)) rfl (by kernel_rfl) (by kernel_rfl) (by kernel_rfl) (fun _ _ _ h => h) (Or.inl ⟨by rfl, fun w' hs => by go_simp⟩) hH ?_
            try simp only [Act.put, List.setIfInBounds_toArray, List.set_cons_zero, List.set_cons_succ]
            refine wpAnyH_take (i := 25) (oi := { dst := some 89, op := Op.binOp BinOp.gtr 3 (Operand.tmp 88) (Operand.const (Value.int IntKind.i64 0)) 3, type := 4, pos := "outright.go:120", after := #[{ on := 24, ground := Ground.data }, { on := 23, ground := Ground.guard }], guard := some (23, false) }) (v := .bool false) rfl (by kernel_rfl) (by kernel_rfl) (by kernel_rfl) (fun _ _ _ h => h) (Or.inl ⟨by rfl, fun w' hs => by go_simp; omega⟩) hH ?_
            try simp only [Act.put, List.setIfInBounds_toArray, List.set_cons_zero, List.set_cons_succ]
            refine wpAnyH_take (i := 26) (oi := { dst := some 90, op := Op.move (Operand.tmp 89), type := 4, pos := "outright.go:120", after := #[{ on := 25, ground := Ground.data }, { on := 23, ground := Ground.chain }, { on := 23, ground := Ground.guard }], guard := some (23, false) }) (v := .bool false) rfl (by kernel_rfl) (by kernel_rfl) (by kernel_rfl) (fun _ _ _ h => h) (Or.inl ⟨by rfl, fun w' hs => by go_simp⟩) hH ?_
            try simp only [Act.put, List.setIfInBounds_toArray, List.set_cons_zero, List.set_cons_succ]
            refine wpAnyH_take (i := 27) (oi := { dst := some 91, op := Op.move (Operand.tmp 11), type := 33, pos := "outright.go:120", after := #[{ on := 26, ground := Ground.guard }], guard := some (26, true) }) (v := undef) rfl (by kernel_rfl) (by kernel_rfl) (by kernel_rfl) (fun _ _ _ h => h) (Or.inr ⟨by rfl, rfl⟩) hH ?_
            try simp only [Act.put, List.setIfInBounds_toArray, List.set_cons_zero, List.set_cons_succ]
            refine wpAnyH_take (i := 28) (oi := { dst := some 92, op := Op.move (Operand.tmp 12), type := 3, pos := "outright.go:120", after := #[{ on := 26, ground := Ground.guard }], guard := some (26, true) }) (v := undef) rfl (by kernel_rfl) (by kernel_rfl) (by kernel_rfl) (fun _ _ _ h => h) (Or.inr ⟨by rfl, rfl⟩) hH ?_
            try simp only [Act.put, List.setIfInBounds_toArray, List.set_cons_zero, List.set_cons_succ]
            refine wpAnyH_take (i := 29) (oi := { dst := some 93, op := Op.binOp BinOp.sub 3 (Operand.tmp 92) (Operand.const (Value.int IntKind.i64 1)) 3, type := 3, pos := "outright.go:120", after := #[{ on := 28, ground := Ground.data }, { on := 26, ground := Ground.guard }], guard := some (26, true) }) (v := undef) rfl (by kernel_rfl) (by kernel_rfl) (by kernel_rfl) (fun _ _ _ h => h) (Or.inr ⟨by rfl, rfl⟩) hH ?_
            try simp only [Act.put, List.setIfInBounds_toArray, List.set_cons_zero, List.set_cons_succ]
            refine wpAnyH_take (i := 30) (oi := { dst := some 94, op := Op.indexAddr 33 (Operand.tmp 91) (Operand.tmp 93), type := 0, pos := "outright.go:120", after := #[{ on := 27, ground := Ground.data }, { on := 29, ground := Ground.data }, { on := 26, ground := Ground.guard }], guard := some (26, true) }) (v := undef) rfl (by kernel_rfl) (by kernel_rfl) (by kernel_rfl) (fun _ _ _ h => h) (Or.inr ⟨by rfl, rfl⟩) hH ?_
            try simp only [Act.put, List.setIfInBounds_toArray, List.set_cons_zero, List.set_cons_succ]
            refine wpAnyH_take (i := 31) (oi := { dst := some 95, op := Op.fieldAddr 44 (Operand.tmp 94) 1, type := 0, pos := "outright.go:120", after := #[{ on := 30, ground := Ground.data }, { on := 26, ground := Ground.guard }], guard := some (26, true) }) (v := undef) rfl (by kernel_rfl) (by kernel_rfl) (by kernel_rfl) (fun _ _ _ h => h) (Or.inr ⟨by rfl, rfl⟩) hH ?_
            try simp only [Act.put, List.setIfInBounds_toArray, List.set_cons_zero, List.set_cons_succ]
            refine wpAnyH_take (i := 32) (oi := { dst := some 96, op := Op.load 3 (Operand.tmp 95), type := 3, pos := "outright.go:120", after := #[{ on := 31, ground := Ground.data }, { on := 26, ground := Ground.guard }], guard := some (26, true) }) (v := undef) rfl (by kernel_rfl) (by kernel_rfl) (by kernel_rfl) (fun _ _ _ h => h) (Or.inr ⟨by rfl, rfl⟩) hH ?_
            try simp only [Act.put, List.setIfInBounds_toArray, List.set_cons_zero, List.set_cons_succ]
            refine wpAnyH_take (i := 33) (oi := { dst := some 97, op := Op.move (Operand.tmp 11), type := 33, pos := "outright.go:120", after := #[{ on := 26, ground := Ground.guard }], guard := some (26, true) }) (v := undef) rfl (by kernel_rfl) (by kernel_rfl) (by kernel_rfl) (fun _ _ _ h => h) (Or.inr ⟨by rfl, rfl⟩) hH ?_
            try simp only [Act.put, List.setIfInBounds_toArray, List.set_cons_zero, List.set_cons_succ]
            refine wpAnyH_take (i := 34) (oi := { dst := some 98, op := Op.move (Operand.tmp 12), type := 3, pos := "outright.go:120", after := #[{ on := 26, ground := Ground.guard }], guard := some (26, true) }) (v := undef) rfl (by kernel_rfl) (by kernel_rfl) (by kernel_rfl) (fun _ _ _ h => h) (Or.inr ⟨by rfl, rfl⟩) hH ?_
            try simp only [Act.put, List.setIfInBounds_toArray, List.set_cons_zero, List.set_cons_succ]
            refine wpAnyH_take (i := 35) (oi := { dst := some 99, op := Op.indexAddr 33 (Operand.tmp 97) (Operand.tmp 98), type := 0, pos := "outright.go:120", after := #[{ on := 33, ground := Ground.data }, { on := 34, ground := Ground.data }, { on := 26, ground := Ground.guard }], guard := some (26, true) }) (v := undef) rfl (by kernel_rfl) (by kernel_rfl) (by kernel_rfl) (fun _ _ _ h => h) (Or.inr ⟨by rfl, rfl⟩) hH ?_
            try simp only [Act.put, List.setIfInBounds_toArray, List.set_cons_zero, List.set_cons_succ]
            refine wpAnyH_take (i := 36) (oi := { dst := some 100, op := Op.fieldAddr 44 (Operand.tmp 99) 1, type := 0, pos := "outright.go:120", after := #[{ on := 35, ground := Ground.data }, { on := 26, ground := Ground.guard }], guard := some (26, true) }) (v := undef) rfl (by kernel_rfl) (by kernel_rfl) (by kernel_rfl) (fun _ _ _ h => h) (Or.inr ⟨by rfl, rfl⟩) hH ?_
            try simp only [Act.put, List.setIfInBounds_toArray, List.set_cons_zero, List.set_cons_succ]
            refine wpAnyH_take (i := 37) (oi := { dst := some 101, op := Op.load 3 (Operand.tmp 100), type := 3, pos := "outright.go:120", after := #[{ on := 36, ground := Ground.data }, { on := 26, ground := Ground.guard }], guard := some (26, true) }) (v := undef) rfl (by kernel_rfl) (by kernel_rfl) (by kernel_rfl) (fun _ _ _ h => h) (Or.inr ⟨by rfl, rfl⟩) hH ?_
            try simp only [Act.put, List.setIfInBounds_toArray, List.set_cons_zero, List.set_cons_succ]
            refine wpAnyH_take (i := 38) (oi := { dst := some 102, op := Op.binOp BinOp.geq 3 (Operand.tmp 96) (Operand.tmp 101) 3, type := 4, pos := "outright.go:120", after := #[{ on := 32, ground := Ground.data }, { on := 37, ground := Ground.data }, { on := 26, ground := Ground.guard }], guard := some (26, true) }) (v := undef) rfl (by kernel_rfl) (by kernel_rfl) (by kernel_rfl) (fun _ _ _ h => h) (Or.inr ⟨by rfl, rfl⟩) hH ?_
            try simp only [Act.put, List.setIfInBounds_toArray, List.set_cons_zero, List.set_cons_succ]
            refine wpAnyH_take (i := 39) (oi := { dst := some 103, op := Op.pick (Operand.tmp 90) (Operand.tmp 102) (Operand.const (Value.bool false)), type := 4, pos := "outright.go:120", after := #[{ on := 26, ground := Ground.data }, { on := 38, ground := Ground.data }, { on := 23, ground := Ground.guard }], guard := some (23, false) }) (v := .bool false) rfl (by kernel_rfl) (by kernel_rfl) (by kernel_rfl) (fun _ _ _ h => h) (Or.inl ⟨by rfl, fun w' hs => by go_simp⟩) hH ?_
            try simp only [Act.put, List.setIfInBounds_toArray, List.set_cons_zero, List.set_cons_succ]
            refine wpAnyH_take (i := 40) (oi := { dst := some 104, op := Op.pick (Operand.tmp 87) (Operand.const (Value.bool true)) (Operand.tmp 103), type := 4, pos := "outright.go:120", after := #[{ on := 23, ground := Ground.data }, { on := 39, ground := Ground.data }], guard := none }) (v := .bool false) rfl (by kernel_rfl) (by kernel_rfl) (by kernel_rfl) (fun _ _ _ h => h) (Or.inl ⟨by rfl, fun w' hs => by go_simp⟩) hH ?_
            try simp only [Act.put, List.setIfInBounds_toArray, List.set_cons_zero, List.set_cons_succ]
            refine wpAnyH_done (by kernel_rfl) ?_ _
            clear hH hK
            have D7 : Hid (WS R bm B (rul l hs) (after (boL (rul l hs) []) (now + (k : Int)) L1) w3 n2 sj w7 ∧ OutP Z5 w7 (.slice (some ⟨gp, 0, none⟩) n5 c5) ps ∧ Wj qs L1 k ps sn j sj) := ⟨D6.out.1.below B2.out, D6.out.2.1.below B2.out, D6.out.2.2⟩
            clear B2 D6 CX SA S0 BP
            obtain ⟨v, hv⟩ : ∃ v, sj[m]? = some v := ⟨sj[m]'(by have := D7.out.2.2.len; have := D3.out.2.2.1; omega), List.getElem?_eq_getElem _⟩
            have vb := D7.out.2.2.bnd m v hv
            have cv : w7.cell? ⟨w3.heap.size, m, none⟩ = some (.int .i64 v) := by
              obtain ⟨g', o', e1, _, e2⟩ := rd_at2 (RowV.rd D7.out.1.row) (i := m) (u := iv v) (by rw [List.getElem?_map, hv]; rfl)
              injection e1 with e1
              injection e1 with e1 e3
              subst e1 e3
              rw [Nat.zero_add] at e2
              exact e2
            have fv : w7.frozen? ⟨w3.heap.size, m, none⟩ = false := by
              rcases D7.out.1.row.2 with ⟨e, _⟩ | ⟨g', cap, cur, e, _, hh, _⟩
              · cases e
              · injection e with e _ _
                injection e with e
                injection e with e
                subst e
                simp [World.frozen?, hh]
            have lv : w3.heap.size < w7.heap.size := World.block_lt_of_cell? _ _ cv
            have W8 : Hid (Wj qs L1 k ps sn (j + 1) (sj.set m (v + 1))) := D7.out.2.2.step DW.out.1 HP.out HM.out.1 HM.out.2 hv
            clear hv
            go_wp2_with fail
            have D8 : Hid (WS R bm B (rul l hs) (after (boL (rul l hs) []) (now + (k : Int)) L1) w3 n2 (sj.set m (v + 1)) (w7.setCell ⟨w3.heap.size, m, none⟩ (.int .i64 (v + 1))) ∧ OutP Z5 (w7.setCell ⟨w3.heap.size, m, none⟩ (.int .i64 (v + 1))) (.slice (some ⟨gp, 0, none⟩) n5 c5) ps) := ⟨D7.out.1.mark FXH.out.1.r FXH.out.1.m FXH.out.1.b m (v + 1), D7.out.2.1.kp (Kp.of_grown (setCell_grown w7 w3.heap.size m (.int .i64 (v + 1)))) (fun g hg q => by injection q with q; have := P5.out.2.2.2.2.2; omega)⟩
            go_roundw
            case rel => exact ⟨j + 1, _, by go_num, by omega, D8.out.1, D8.out.2, W8.out⟩
            case measure => simp [intOf]; omega
        · obtain rfl : j = n5 := by omega
          have FN : Hid (WS R bm B (rul l hs) (after (boL (rul l hs) []) (now + (k : Int)) L1) w3 n2 sj wr ∧ Wn qs (after (boL (rul l hs) []) (now + (k : Int)) L1) now CN (k + 1) sj ∧ Lim (2000 + (k + 1)) (after (boL (rul l hs) []) (now + (k : Int)) L1)) := by
            refine ⟨D.out.1, Wj.done DW.out.1 (by rw [← P5.out.2.2.2.1]; exact D.out.2.2) P5.out.2.2.1 P5.out.2.2.2.2.1, DW.out.2.after⟩
          go_wp2_with fail
          go_roundw
          case rel => exact ⟨k + 1, _, sj, by go_num, by omega, by omega, FN.out.1, FN.out.2.1, FN.out.2.2⟩
          case measure => simp [intOf]; omega
    · have hkC : k = CN + 1 := by omega
      have WN : Hid (∀ (i : Nat) (x : Int), sn[i]? = some x → 1 ≤ x) := fun i x hx => D.out.2.1.all (by omega) hC1 hx
      have LN : Hid (sn.length = n2 ∧ n2 = qs.length) := ⟨by rw [D.out.2.1.len, D3.out.2.2.1], D3.out.2.2.1⟩
      have RSE : Hid (Rise L1 ∧ cpL L1 = cpL qs) := ⟨D.out.2.1.rise, D.out.2.1.ids⟩
      have HLD : Hid (RdL 4 enL En.bv En.bs wr (.slice a2 n2 c2) qs) := FXH.out.1.heldk D.out.1.k
      have D9 : Hid (WS R bm B (rul l hs) L1 w3 n2 sn wr) := D.out.1
      obtain ⟨w9, hw9⟩ : ∃ w9, w9 = wr := ⟨_, rfl⟩
      subst hw9
      clear D hkC
      go_wp2_with fail
      go_loopw [14] (fun v14 wx => ∃ i : Nat, v14 = .int .i64 (i : Int) ∧ i ≤ n2 ∧ Hid (Below w9.heap.size w9 wx)) (fun v14 _ => n2 - (intOf v14).toNat)
      case atStart => exact ⟨0, rfl, by omega, Below.refl _ _⟩
      case round =>
        obtain ⟨i, rfl, hin, D⟩ := hrel
        by_cases hit : (i : Int) < (n2 : Int)
        · obtain ⟨v, hv⟩ : ∃ v, sn[i]? = some v := ⟨sn[i]'(by have := LN.out; omega), List.getElem?_eq_getElem _⟩
          have v1 := WN.out i v hv
          have e4 : (v == 0) = false := by
            have : v ≠ 0 := by omega
            simpa using this
          have CV : Hid (w9.cell? ⟨w3.heap.size, i, none⟩ = some (.int .i64 v)) := by
            obtain ⟨g', o', e1, _, e2⟩ := rd_at2 (RowV.rd D9.out.row) (i := i) (u := iv v) (by rw [List.getElem?_map, hv]; rfl)
            injection e1 with e1
            injection e1 with e1 e3
            subst e1 e3
            rw [Nat.zero_add] at e2
            exact e2
          have LV9 : Hid (w3.heap.size < w9.heap.size) := World.block_lt_of_cell? _ _ CV.out
          have lv : w3.heap.size < wr.heap.size := Nat.lt_of_lt_of_le LV9.out D.out.size
          have S0 : Hid (Below w9.heap.size w9 wr.drew) := Below.drew D.out
          have DX : Hid (Below w9.heap.size w9 wr) := D.out
          clear hv v1 D
          by_cases hi0 : (i : Int) > 0
          · obtain ⟨i1, hi1⟩ : ∃ i1 : Nat, i = i1 + 1 := ⟨i - 1, by omega⟩
            obtain ⟨x, hx⟩ : ∃ x, qs[i]? = some x := ⟨qs[i]'(by have := LN.out; omega), List.getElem?_eq_getElem _⟩
            obtain ⟨y, hy⟩ : ∃ y, qs[i1]? = some y := ⟨qs[i1]'(by have := LN.out; omega), List.getElem?_eq_getElem _⟩
            obtain ⟨gh, oh, rfl, lgh, cx, cy⟩ : ∃ g o, a2 = some ⟨g, o, none⟩ ∧ g < w9.heap.size ∧ w9.cell? ⟨g, o + i * 4, none⟩ = some (.int .i64 x.id) ∧ w9.cell? ⟨g, o + i1 * 4, none⟩ = some (.int .i64 y.id) := by
              obtain ⟨a', c', e, _, H⟩ := HLD.out
              obtain ⟨g, o, e1, lt, h1, _, _⟩ := H i x hx
              obtain ⟨g', o', e1', _, h1', _, _⟩ := H i1 y hy
              injection e with e _ _
              rw [e1] at e1'
              injection e1' with e1'
              injection e1' with e2 e3
              subst e2 e3
              exact ⟨g, o, by rw [e, e1], lt, h1 0 _ rfl, h1' 0 _ rfl⟩
            have up : y.id < x.id := by
              have hr := rise_cp RSE.out.2 RSE.out.1
              obtain ⟨h1, rfl⟩ := List.getElem?_eq_some_iff.1 hx
              obtain ⟨h2, rfl⟩ := List.getElem?_eq_some_iff.1 hy
              exact List.pairwise_iff_getElem.1 hr i1 i h2 h1 (by omega)
            have e5 : decide (y.id ≥ x.id) = false := decide_eq_false (by omega)
            have CXX : Hid (w9.cell? ⟨gh, oh + i * 4, none⟩ = some (.int .i64 x.id)) := cx
            have CY : Hid (w9.cell? ⟨gh, oh + i1 * 4, none⟩ = some (.int .i64 y.id)) := cy
            have LGH : Hid (gh < w9.heap.size) := lgh
            have hi2 : i1 < n2 := by omega
            have hi3 : (i : Int) - 1 = (i1 : Int) := by omega
            have lgh' : gh < wr.heap.size := Nat.lt_of_lt_of_le lgh DX.out.size
            clear hx hy cx cy lgh hi1
            go_upto_region 23 with fail
            refine wp_region_held_drew (S := fun w' => Below w9.heap.size w9 w' ∧ w'.cell? ⟨w3.heap.size, i, none⟩ = some (.int .i64 v) ∧ w'.cell? ⟨gh, oh + i1 * 4, none⟩ = some (.int .i64 y.id) ∧ w'.cell? ⟨gh, oh + i * 4, none⟩ = some (.int .i64 x.id)) (by kernel_rfl) (⟨S0.out, (S0.out.cell (p := ⟨w3.heap.size, i, none⟩) LV9.out).trans CV.out, (S0.out.cell (p := ⟨gh, oh + i1 * 4, none⟩) LGH.out).trans CY.out, (S0.out.cell (p := ⟨gh, oh + i * 4, none⟩) LGH.out).trans CXX.out⟩) (fun hH => ?_)
            refine wpAnyH_take (i := 0) (oi := { dst := some 117, op := Op.move (Operand.tmp 9), type := 22, pos := "outright.go:127", after := #[], guard := none }) (v := .slice (some ⟨w3.heap.size, 0, none⟩) n2 n2) rfl (by kernel_rfl) (by kernel_rfl) (by kernel_rfl) (fun _ _ _ h => h) (Or.inl ⟨by rfl, fun w' hs => by go_simp⟩) hH ?_
            try simp only [Act.put, List.setIfInBounds_toArray, List.set_cons_zero, List.set_cons_succ]
            refine wpAnyH_take (i := 1) (oi := { dst := some 118, op := Op.move (Operand.tmp 14), type := 3, pos := "outright.go:127", after := #[], guard := none }) (v := .int .i64 (i : Int)) rfl (by kernel_rfl) (by kernel_rfl) (by kernel_rfl) (fun _ _ _ h => h) (Or.inl ⟨by rfl, fun w' hs => by go_simp⟩) hH ?_
            try simp only [Act.put, List.setIfInBounds_toArray, List.set_cons_zero, List.set_cons_succ]
            refine wpAnyH_take (i := 2) (oi := { dst := some 119, op := Op.indexAddr 22 (Operand.tmp 117) (Operand.tmp 118), type := 0, pos := "outright.go:127", after := #[{ on := 0, ground := Ground.data }, { on := 1, ground := Ground.data }], guard := none }) (v := .pointer (some ⟨w3.heap.size, i, none⟩)) rfl (by kernel_rfl) (by kernel_rfl) (by kernel_rfl) (fun _ _ _ h => h) (Or.inl ⟨by rfl, fun w' hs => by go_simp⟩) hH ?_
            try simp only [Act.put, List.setIfInBounds_toArray, List.set_cons_zero, List.set_cons_succ]
            refine wpAnyH_take (i := 3) (oi := { dst := some 120, op := Op.load 3 (Operand.tmp 119), type := 3, pos := "outright.go:127", after := #[{ on := 2, ground := Ground.data }], guard := none }) (v := .int .i64 v) rfl (by kernel_rfl) (by kernel_rfl) (by kernel_rfl) (fun _ _ _ h => h) (Or.inl ⟨by rfl, fun w' hs => by have c := hs.2.1; go_simp⟩) hH ?_
            try simp only [Act.put, List.setIfInBounds_toArray, List.set_cons_zero, List.set_cons_succ]
            refine wpAnyH_take (i := 4) (oi := { dst := some 121, op := Op.binOp BinOp.eql 3 (Operand.tmp 120) (Operand.const (Value.int IntKind.i64 0)) 3, type := 4, pos := "outright.go:127", after := #[{ on := 3, ground := Ground.data }], guard := none }) (v := .bool false) rfl (by kernel_rfl) (by kernel_rfl) (by kernel_rfl) (fun _ _ _ h => h) (Or.inl ⟨by rfl, fun w' hs => by go_simp⟩) hH ?_
            try simp only [Act.put, List.setIfInBounds_toArray, List.set_cons_zero, List.set_cons_succ]
            refine wpAnyH_take (i := 5) (oi := { dst := some 122, op := Op.move (Operand.tmp 121), type := 4, pos := "outright.go:127", after := #[{ on := 4, ground := Ground.data }], guard := none }) (v := .bool false) rfl (by kernel_rfl) (by kernel_rfl) (by kernel_rfl) (fun _ _ _ h => h) (Or.inl ⟨by rfl, fun w' hs => by go_simp⟩) hH ?_
            try simp only [Act.put, List.setIfInBounds_toArray, List.set_cons_zero, List.set_cons_succ]
            refine wpAnyH_take (i := 6) (oi := { dst := some 123, op := Op.move (Operand.tmp 14), type := 3, pos := "outright.go:127", after := #[{ on := 5, ground := Ground.guard }], guard := some (5, false) }) (v := .int .i64 (i : Int)) rfl (by kernel_rfl) (by kernel_rfl) (by kernel_rfl) (fun _ _ _ h => h) (Or.inl ⟨by rfl, fun w' hs => by go_simp⟩) hH ?_
            try simp only [Act.put, List.setIfInBounds_toArray, List.set_cons_zero, List.set_cons_succ]
            refine wpAnyH_take (i := 7) (oi := { dst := some 124, op := Op.binOp BinOp.gtr 3 (Operand.tmp 123) (Operand.const (Value.int IntKind.i64 0)) 3, type := 4, pos := "outright.go:127", after := #[{ on := 6, ground := Ground.data }, { on := 5, ground := Ground.guard }], guard := some (5, false) }) (v := .bool true) rfl (by kernel_rfl) (by kernel_rfl) (by kernel_rfl) (fun _ _ _ h => h) (Or.inl ⟨by rfl, fun w' hs => by go_simp; omega⟩) hH ?_
            try simp only [Act.put, List.setIfInBounds_toArray, List.set_cons_zero, List.set_cons_succ]
            refine wpAnyH_take (i := 8) (oi := { dst := some 125, op := Op.move (Operand.tmp 124), type := 4, pos := "outright.go:127", after := #[{ on := 7, ground := Ground.data }, { on := 5, ground := Ground.chain }, { on := 5, ground := Ground.guard }], guard := some (5, false) }) (v := .bool true) rfl (by kernel_rfl) (by kernel_rfl) (by kernel_rfl) (fun _ _ _ h => h) (Or.inl ⟨by rfl, fun w' hs => by go_simp⟩) hH ?_
            try simp only [Act.put, List.setIfInBounds_toArray, List.set_cons_zero, List.set_cons_succ]
            refine wpAnyH_take (i := 9) (oi := { dst := some 126, op := Op.move (Operand.tmp 7), type := 36, pos := "outright.go:127", after := #[{ on := 8, ground := Ground.guard }], guard := some (8, true) }) (v := .slice (some ⟨gh, oh, none⟩) n2 c2) rfl (by kernel_rfl) (by kernel_rfl) (by kernel_rfl) (fun _ _ _ h => h) (Or.inl ⟨by rfl, fun w' hs => by go_simp⟩) hH ?_
            try simp only [Act.put, List.setIfInBounds_toArray, List.set_cons_zero, List.set_cons_succ]
            refine wpAnyH_take (i := 10) (oi := { dst := some 127, op := Op.move (Operand.tmp 14), type := 3, pos := "outright.go:127", after := #[{ on := 8, ground := Ground.guard }], guard := some (8, true) }) (v := .int .i64 (i : Int)) rfl (by kernel_rfl) (by kernel_rfl) (by kernel_rfl) (fun _ _ _ h => h) (Or.inl ⟨by rfl, fun w' hs => by go_simp⟩) hH ?_
            try simp only [Act.put, List.setIfInBounds_toArray, List.set_cons_zero, List.set_cons_succ]
            refine wpAnyH_take (i := 11) (oi := { dst := some 128, op := Op.binOp BinOp.sub 3 (Operand.tmp 127) (Operand.const (Value.int IntKind.i64 1)) 3, type := 3, pos := "outright.go:127", after := #[{ on := 10, ground := Ground.data }, { on := 8, ground := Ground.guard }], guard := some (8, true) }) (v := .int .i64 (i1 : Int)) rfl (by kernel_rfl) (by kernel_rfl) (by kernel_rfl) (fun _ _ _ h => h) (Or.inl ⟨by rfl, fun w' hs => by go_simp; rw [IntKind.wrap_i64]; omega⟩) hH ?_
            try simp only [Act.put, List.setIfInBounds_toArray, List.set_cons_zero, List.set_cons_succ]
            refine wpAnyH_take (i := 12) (oi := { dst := some 129, op := Op.indexAddr 36 (Operand.tmp 126) (Operand.tmp 128), type := 0, pos := "outright.go:127", after := #[{ on := 9, ground := Ground.data }, { on := 11, ground := Ground.data }, { on := 8, ground := Ground.guard }], guard := some (8, true) }) (v := .pointer (some ⟨gh, oh + i1 * 4, none⟩)) rfl (by kernel_rfl) (by kernel_rfl) (by kernel_rfl) (fun _ _ _ h => h) (Or.inl ⟨by rfl, fun w' hs => by go_simp⟩) hH ?_
            try simp only [Act.put, List.setIfInBounds_toArray, List.set_cons_zero, List.set_cons_succ]
            refine wpAnyH_take (i := 13) (oi := { dst := some 130, op := Op.fieldAddr 47 (Operand.tmp 129) 0, type := 0, pos := "outright.go:127", after := #[{ on := 12, ground := Ground.data }, { on := 8, ground := Ground.guard }], guard := some (8, true) }) (v := .pointer (some ⟨gh, oh + i1 * 4, none⟩)) rfl (by kernel_rfl) (by kernel_rfl) (by kernel_rfl) (fun _ _ _ h => h) (Or.inl ⟨by rfl, fun w' hs => by go_simp⟩) hH ?_
            try simp only [Act.put, List.setIfInBounds_toArray, List.set_cons_zero, List.set_cons_succ]
            refine wpAnyH_take (i := 14) (oi := { dst := some 131, op := Op.load 3 (Operand.tmp 130), type := 3, pos := "outright.go:127", after := #[{ on := 13, ground := Ground.data }, { on := 8, ground := Ground.guard }], guard := some (8, true) }) (v := .int .i64 y.id) rfl (by kernel_rfl) (by kernel_rfl) (by kernel_rfl) (fun _ _ _ h => h) (Or.inl ⟨by rfl, fun w' hs => by have c := hs.2.2.1; go_simp⟩) hH ?_
            try simp only [Act.put, List.setIfInBounds_toArray, List.set_cons_zero, List.set_cons_succ]
            refine wpAnyH_take (i := 15) (oi := { dst := some 132, op := Op.move (Operand.tmp 7), type := 36, pos := "outright.go:127", after := #[{ on := 8, ground := Ground.guard }], guard := some (8, true) }) (v := .slice (some ⟨gh, oh, none⟩) n2 c2) rfl (by kernel_rfl) (by kernel_rfl) (by kernel_rfl) (fun _ _ _ h => h) (Or.inl ⟨by rfl, fun w' hs => by go_simp⟩) hH ?_
            try simp only [Act.put, List.setIfInBounds_toArray, List.set_cons_zero, List.set_cons_succ]
            refine wpAnyH_take (i := 16) (oi := { dst := some 133, op := Op.move (Operand.tmp 14), type := 3, pos := "outright.go:127", after := #[{ on := 8, ground := Ground.guard }], guard := some (8, true) }) (v := .int .i64 (i : Int)) rfl (by kernel_rfl) (by kernel_rfl) (by kernel_rfl) (fun _ _ _ h => h) (Or.inl ⟨by rfl, fun w' hs => by go_simp⟩) hH ?_
            try simp only [Act.put, List.setIfInBounds_toArray, List.set_cons_zero, List.set_cons_succ]
            refine wpAnyH_take (i := 17) (oi := { dst := some 134, op := Op.indexAddr 36 (Operand.tmp 132) (Operand.tmp 133), type := 0, pos := "outright.go:127", after := #[{ on := 15, ground := Ground.data }, { on := 16, ground := Ground.data }, { on := 8, ground := Ground.guard }], guard := some (8, true) }) (v := .pointer (some ⟨gh, oh + i * 4, none⟩)) rfl (by kernel_rfl) (by kernel_rfl) (by kernel_rfl) (fun _ _ _ h => h) (Or.inl ⟨by rfl, fun w' hs => by go_simp⟩) hH ?_
            try simp only [Act.put, List.setIfInBounds_toArray, List.set_cons_zero, List.set_cons_succ]
            refine wpAnyH_take (i := 18) (oi := { dst := some 135, op := Op.fieldAddr 47 (Operand.tmp 134) 0, type := 0, pos := "outright.go:127", after := #[{ on := 17, ground := Ground.data }, { on := 8, ground := Ground.guard }], guard := some (8, true) }) (v := .pointer (some ⟨gh, oh + i * 4, none⟩)) rfl (by kernel_rfl) (by kernel_rfl) (by kernel_rfl) (fun _ _ _ h => h) (Or.inl ⟨by rfl, fun w' hs => by go_simp⟩) hH ?_
            try simp only [Act.put, List.setIfInBounds_toArray, List.set_cons_zero, List.set_cons_succ]
            refine wpAnyH_take (i := 19) (oi := { dst := some 136, op := Op.load 3 (Operand.tmp 135), type := 3, pos := "outright.go:127", after := #[{ on := 18, ground := Ground.data }, { on := 8, ground := Ground.guard }], guard := some (8, true) }) (v := .int .i64 x.id) rfl (by kernel_rfl) (by kernel_rfl) (by kernel_rfl) (fun _ _ _ h => h) (Or.inl ⟨by rfl, fun w' hs => by have c := hs.2.2.2; go_simp⟩) hH ?_
            try simp only [Act.put, List.setIfInBounds_toArray, List.set_cons_zero, List.set_cons_succ]
            refine wpAnyH_take (i := 20) (oi := { dst := some 137, op := Op.binOp BinOp.geq 3 (Operand.tmp 131) (Operand.tmp 136) 3, type := 4, pos := "outright.go:127", after := #[{ on := 14, ground := Ground.data }, { on := 19, ground := Ground.data }, { on := 8, ground := Ground.guard }], guard := some (8, true) }) (v := .bool false) rfl (by kernel_rfl) (by kernel_rfl) (by kernel_rfl) (fun _ _ _ h => h) (Or.inl ⟨by rfl, fun w' hs => by go_simp⟩) hH ?_
            try simp only [Act.put, List.setIfInBounds_toArray, List.set_cons_zero, List.set_cons_succ]
            refine wpAnyH_take (i := 21) (oi := { dst := some 138, op := Op.pick (Operand.tmp 125) (Operand.tmp 137) (Operand.const (Value.bool false)), type := 4, pos := "outright.go:127", after := #[{ on := 8, ground := Ground.data }, { on := 20, ground := Ground.data }, { on := 5, ground := Ground.guard }], guard := some (5, false) }) (v := .bool false) rfl (by kernel_rfl) (by kernel_rfl) (by kernel_rfl) (fun _ _ _ h => h) (Or.inl ⟨by rfl, fun w' hs => by go_simp⟩) hH ?_
            try simp only [Act.put, List.setIfInBounds_toArray, List.set_cons_zero, List.set_cons_succ]
            refine wpAnyH_take (i := 22) (oi := { dst := some 139, op := Op.pick (Operand.tmp 122) (Operand.const (Value.bool true)) (Operand.tmp 138), type := 4, pos := "outright.go:127", after := #[{ on := 5, ground := Ground.data }, { on := 21, ground := Ground.data }], guard := none }) (v := .bool false) rfl (by kernel_rfl) (by kernel_rfl) (by kernel_rfl) (fun _ _ _ h => h) (Or.inl ⟨by rfl, fun w' hs => by go_simp⟩) hH ?_
            try simp only [Act.put, List.setIfInBounds_toArray, List.set_cons_zero, List.set_cons_succ]
            refine wpAnyH_done (by kernel_rfl) ?_ _
            clear hH
            have F9 : Hid (Below w9.heap.size w9 wr.drew) := S0.out
            clear S0 CV CXX CY
            go_wp2_with fail
            go_roundw
            case rel => exact ⟨i + 1, by go_num, by omega, F9⟩
            case measure => simp [intOf]; omega
          · have e6 : decide ((i : Int) > 0) = false := decide_eq_false hi0
            go_upto_region 23 with fail
            refine wp_region_held_drew (S := fun w' => Below w9.heap.size w9 w' ∧ w'.cell? ⟨w3.heap.size, i, none⟩ = some (.int .i64 v)) (by kernel_rfl) (⟨S0.out, (S0.out.cell (p := ⟨w3.heap.size, i, none⟩) LV9.out).trans CV.out⟩) (fun hH => ?_)
            refine wpAnyH_take (i := 0) (oi := { dst := some 117, op := Op.move (Operand.tmp 9), type := 22, pos := "outright.go:127", after := #[], guard := none }) (v := .slice (some ⟨w3.heap.size, 0, none⟩) n2 n2) rfl (by kernel_rfl) (by kernel_rfl) (by kernel_rfl) (fun _ _ _ h => h) (Or.inl ⟨by rfl, fun w' hs => by go_simp⟩) hH ?_
            try simp only [Act.put, List.setIfInBounds_toArray, List.set_cons_zero, List.set_cons_succ]
            refine wpAnyH_take (i := 1) (oi := { dst := some 118, op := Op.move (Operand.tmp 14), type := 3, pos := "outright.go:127", after := #[], guard := none }) (v := .int .i64 (i : Int)) rfl (by kernel_rfl) (by kernel_rfl) (by kernel_rfl) (fun _ _ _ h => h) (Or.inl ⟨by rfl, fun w' hs => by go_simp⟩) hH ?_
            try simp only [Act.put, List.setIfInBounds_toArray, List.set_cons_zero, List.set_cons_succ]
            refine wpAnyH_take (i := 2) (oi := { dst := some 119, op := Op.indexAddr 22 (Operand.tmp 117) (Operand.tmp 118), type := 0, pos := "outright.go:127", after := #[{ on := 0, ground := Ground.data }, { on := 1, ground := Ground.data }], guard := none }) (v := .pointer (some ⟨w3.heap.size, i, none⟩)) rfl (by kernel_rfl) (by kernel_rfl) (by kernel_rfl) (fun _ _ _ h => h) (Or.inl ⟨by rfl, fun w' hs => by go_simp⟩) hH ?_
            try simp only [Act.put, List.setIfInBounds_toArray, List.set_cons_zero, List.set_cons_succ]
            refine wpAnyH_take (i := 3) (oi := { dst := some 120, op := Op.load 3 (Operand.tmp 119), type := 3, pos := "outright.go:127", after := #[{ on := 2, ground := Ground.data }], guard := none }) (v := .int .i64 v) rfl (by kernel_rfl) (by kernel_rfl) (by kernel_rfl) (fun _ _ _ h => h) (Or.inl ⟨by rfl, fun w' hs => by have c := hs.2; go_simp⟩) hH ?_
            try simp only [Act.put, List.setIfInBounds_toArray, List.set_cons_zero, List.set_cons_succ]
            refine wpAnyH_take (i := 4) (oi := { dst := some 121, op := Op.binOp BinOp.eql 3 (Operand.tmp 120) (Operand.const (Value.int IntKind.i64 0)) 3, type := 4, pos := "outright.go:127", after := #[{ on := 3, ground := Ground.data }], guard := none }) (v := .bool false) rfl (by kernel_rfl) (by kernel_rfl) (by kernel_rfl) (fun _ _ _ h => h) (Or.inl ⟨by rfl, fun w' hs => by go_simp⟩) hH ?_
            try simp only [Act.put, List.setIfInBounds_toArray, List.set_cons_zero, List.set_cons_succ]
            refine wpAnyH_take (i := 5) (oi := { dst := some 122, op := Op.move (Operand.tmp 121), type := 4, pos := "outright.go:127", after := #[{ on := 4, ground := Ground.data }], guard := none }) (v := .bool false) rfl (by kernel_rfl) (by kernel_rfl) (by kernel_rfl) (fun _ _ _ h => h) (Or.inl ⟨by rfl, fun w' hs => by go_simp⟩) hH ?_
            try simp only [Act.put, List.setIfInBounds_toArray, List.set_cons_zero, List.set_cons_succ]
            refine wpAnyH_take (i := 6) (oi := { dst := some 123, op := Op.move (Operand.tmp 14), type := 3, pos := "outright.go:127", after := #[{ on := 5, ground := Ground.guard }], guard := some (5, false) }) (v := .int .i64 (i : Int)) rfl (by kernel_rfl) (by kernel_rfl) (by kernel_rfl) (fun _ _ _ h => h) (Or.inl ⟨by rfl, fun w' hs => by go_simp⟩) hH ?_
            try simp only [Act.put, List.setIfInBounds_toArray, List.set_cons_zero, List.set_cons_succ]
            refine wpAnyH_take (i := 7) (oi := { dst := some 124, op := Op.binOp BinOp.gtr 3 (Operand.tmp 123) (Operand.const (Value.int IntKind.i64 0)) 3, type := 4, pos := "outright.go:127", after := #[{ on := 6, ground := Ground.data }, { on := 5, ground := Ground.guard }], guard := some (5, false) }) (v := .bool false) rfl (by kernel_rfl) (by kernel_rfl) (by kernel_rfl) (fun _ _ _ h => h) (Or.inl ⟨by rfl, fun w' hs => by go_simp; omega⟩) hH ?_
            try simp only [Act.put, List.setIfInBounds_toArray, List.set_cons_zero, List.set_cons_succ]
            refine wpAnyH_take (i := 8) (oi := { dst := some 125, op := Op.move (Operand.tmp 124), type := 4, pos := "outright.go:127", after := #[{ on := 7, ground := Ground.data }, { on := 5, ground := Ground.chain }, { on := 5, ground := Ground.guard }], guard := some (5, false) }) (v := .bool false) rfl (by kernel_rfl) (by kernel_rfl) (by kernel_rfl) (fun _ _ _ h => h) (Or.inl ⟨by rfl, fun w' hs => by go_simp⟩) hH ?_
            try simp only [Act.put, List.setIfInBounds_toArray, List.set_cons_zero, List.set_cons_succ]
            refine wpAnyH_take (i := 9) (oi := { dst := some 126, op := Op.move (Operand.tmp 7), type := 36, pos := "outright.go:127", after := #[{ on := 8, ground := Ground.guard }], guard := some (8, true) }) (v := undef) rfl (by kernel_rfl) (by kernel_rfl) (by kernel_rfl) (fun _ _ _ h => h) (Or.inr ⟨by rfl, rfl⟩) hH ?_
            try simp only [Act.put, List.setIfInBounds_toArray, List.set_cons_zero, List.set_cons_succ]
            refine wpAnyH_take (i := 10) (oi := { dst := some 127, op := Op.move (Operand.tmp 14), type := 3, pos := "outright.go:127", after := #[{ on := 8, ground := Ground.guard }], guard := some (8, true) }) (v := undef) rfl (by kernel_rfl) (by kernel_rfl) (by kernel_rfl) (fun _ _ _ h => h) (Or.inr ⟨by rfl, rfl⟩) hH ?_
            try simp only [Act.put, List.setIfInBounds_toArray, List.set_cons_zero, List.set_cons_succ]
            refine wpAnyH_take (i := 11) (oi := { dst := some 128, op := Op.binOp BinOp.sub 3 (Operand.tmp 127) (Operand.const (Value.int IntKind.i64 1)) 3, type := 3, pos := "outright.go:127", after := #[{ on := 10, ground := Ground.data }, { on := 8, ground := Ground.guard }], guard := some (8, true) }) (v := undef) rfl (by kernel_rfl) (by kernel_rfl) (by kernel_rfl) (fun _ _ _ h => h) (Or.inr ⟨by rfl, rfl⟩) hH ?_
            try simp only [Act.put, List.setIfInBounds_toArray, List.set_cons_zero, List.set_cons_succ]
            refine wpAnyH_take (i := 12) (oi := { dst := some 129, op := Op.indexAddr 36 (Operand.tmp 126) (Operand.tmp 128), type := 0, pos := "outright.go:127", after := #[{ on := 9, ground := Ground.data }, { on := 11, ground := Ground.data }, { on := 8, ground := Ground.guard }], guard := some (8, true) }) (v := undef) rfl (by kernel_rfl) (by kernel_rfl) (by kernel_rfl) (fun _ _ _ h => h) (Or.inr ⟨by rfl, rfl⟩) hH ?_
            try simp only [Act.put, List.setIfInBounds_toArray, List.set_cons_zero, List.set_cons_succ]
            refine wpAnyH_take (i := 13) (oi := { dst := some 130, op := Op.fieldAddr 47 (Operand.tmp 129) 0, type := 0, pos := "outright.go:127", after := #[{ on := 12, ground := Ground.data }, { on := 8, ground := Ground.guard }], guard := some (8, true) }) (v := undef) rfl (by kernel_rfl) (by kernel_rfl) (by kernel_rfl) (fun _ _ _ h => h) (Or.inr ⟨by rfl, rfl⟩) hH ?_
            try simp only [Act.put, List.setIfInBounds_toArray, List.set_cons_zero, List.set_cons_succ]
            refine wpAnyH_take (i := 14) (oi := { dst := some 131, op := Op.load 3 (Operand.tmp 130), type := 3, pos := "outright.go:127", after := #[{ on := 13, ground := Ground.data }, { on := 8, ground := Ground.guard }], guard := some (8, true) }) (v := undef) rfl (by kernel_rfl) (by kernel_rfl) (by kernel_rfl) (fun _ _ _ h => h) (Or.inr ⟨by rfl, rfl⟩) hH ?_
            try simp only [Act.put, List.setIfInBounds_toArray, List.set_cons_zero, List.set_cons_succ]
            refine wpAnyH_take (i := 15) (oi := { dst := some 132, op := Op.move (Operand.tmp 7), type := 36, pos := "outright.go:127", after := #[{ on := 8, ground := Ground.guard }], guard := some (8, true) }) (v := undef) rfl (by kernel_rfl) (by kernel_rfl) (by kernel_rfl) (fun _ _ _ h => h) (Or.inr ⟨by rfl, rfl⟩) hH ?_
            try simp only [Act.put, List.setIfInBounds_toArray, List.set_cons_zero, List.set_cons_succ]
            refine wpAnyH_take (i := 16) (oi := { dst := some 133, op := Op.move (Operand.tmp 14), type := 3, pos := "outright.go:127", after := #[{ on := 8, ground := Ground.guard }], guard := some (8, true) }) (v := undef) rfl (by kernel_rfl) (by kernel_rfl) (by kernel_rfl) (fun _ _ _ h => h) (Or.inr ⟨by rfl, rfl⟩) hH ?_
            try simp only [Act.put, List.setIfInBounds_toArray, List.set_cons_zero, List.set_cons_succ]
            refine wpAnyH_take (i := 17) (oi := { dst := some 134, op := Op.indexAddr 36 (Operand.tmp 132) (Operand.tmp 133), type := 0, pos := "outright.go:127", after := #[{ on := 15, ground := Ground.data }, { on := 16, ground := Ground.data }, { on := 8, ground := Ground.guard }], guard := some (8, true) }) (v := undef) rfl (by kernel_rfl) (by kernel_rfl) (by kernel_rfl) (fun _ _ _ h => h) (Or.inr ⟨by rfl, rfl⟩) hH ?_
            try simp only [Act.put, List.setIfInBounds_toArray, List.set_cons_zero, List.set_cons_succ]
            refine wpAnyH_take (i := 18) (oi := { dst := some 135, op := Op.fieldAddr 47 (Operand.tmp 134) 0, type := 0, pos := "outright.go:127", after := #[{ on := 17, ground := Ground.data }, { on := 8, ground := Ground.guard }], guard := some (8, true) }) (v := undef) rfl (by kernel_rfl) (by kernel_rfl) (by kernel_rfl) (fun _ _ _ h => h) (Or.inr ⟨by rfl, rfl⟩) hH ?_
            try simp only [Act.put, List.setIfInBounds_toArray, List.set_cons_zero, List.set_cons_succ]
            refine wpAnyH_take (i := 19) (oi := { dst := some 136, op := Op.load 3 (Operand.tmp 135), type := 3, pos := "outright.go:127", after := #[{ on := 18, ground := Ground.data }, { on := 8, ground := Ground.guard }], guard := some (8, true) }) (v := undef) rfl (by kernel_rfl) (by kernel_rfl) (by kernel_rfl) (fun _ _ _ h => h) (Or.inr ⟨by rfl, rfl⟩) hH ?_
            try simp only [Act.put, List.setIfInBounds_toArray, List.set_cons_zero, List.set_cons_succ]
            refine wpAnyH_take (i := 20) (oi := { dst := some 137, op := Op.binOp BinOp.geq 3 (Operand.tmp 131) (Operand.tmp 136) 3, type := 4, pos := "outright.go:127", after := #[{ on := 14, ground := Ground.data }, { on := 19, ground := Ground.data }, { on := 8, ground := Ground.guard }], guard := some (8, true) }) (v := undef) rfl (by kernel_rfl) (by kernel_rfl) (by kernel_rfl) (fun _ _ _ h => h) (Or.inr ⟨by rfl, rfl⟩) hH ?_
            try simp only [Act.put, List.setIfInBounds_toArray, List.set_cons_zero, List.set_cons_succ]
            refine wpAnyH_take (i := 21) (oi := { dst := some 138, op := Op.pick (Operand.tmp 125) (Operand.tmp 137) (Operand.const (Value.bool false)), type := 4, pos := "outright.go:127", after := #[{ on := 8, ground := Ground.data }, { on := 20, ground := Ground.data }, { on := 5, ground := Ground.guard }], guard := some (5, false) }) (v := .bool false) rfl (by kernel_rfl) (by kernel_rfl) (by kernel_rfl) (fun _ _ _ h => h) (Or.inl ⟨by rfl, fun w' hs => by go_simp⟩) hH ?_
            try simp only [Act.put, List.setIfInBounds_toArray, List.set_cons_zero, List.set_cons_succ]
            refine wpAnyH_take (i := 22) (oi := { dst := some 139, op := Op.pick (Operand.tmp 122) (Operand.const (Value.bool true)) (Operand.tmp 138), type := 4, pos := "outright.go:127", after := #[{ on := 5, ground := Ground.data }, { on := 21, ground := Ground.data }], guard := none }) (v := .bool false) rfl (by kernel_rfl) (by kernel_rfl) (by kernel_rfl) (fun _ _ _ h => h) (Or.inl ⟨by rfl, fun w' hs => by go_simp⟩) hH ?_
            try simp only [Act.put, List.setIfInBounds_toArray, List.set_cons_zero, List.set_cons_succ]
            refine wpAnyH_done (by kernel_rfl) ?_ _
            clear hH
            have F9 : Hid (Below w9.heap.size w9 wr.drew) := S0.out
            clear S0 CV
            go_wp2_with fail
            go_roundw
            case rel => exact ⟨i + 1, by go_num, by omega, F9⟩
            case measure => simp [intOf]; omega
        · have DX : Hid (WS R bm B (rul l hs) L1 w3 n2 sn wr) := D9.out.below D.out
          have LL : Hid (L1.length = n2) := by
            have h1 : L1.length = qs.length := by have := congrArg List.length RSE.out.2; simpa [cpL] using this
            have := LN.out
            show _ = _
            omega
          clear D
          go_wp2_with fail
          refine (pending_at R bm B _ L1 _ DX.out.box (by have := LL.out; omega)).mono ?_
          rintro e w10 ⟨a10, n10, c10, rs, rfl, o10, q10, box10, b10⟩
          obtain rfl : n10 = n2 := by
            obtain ⟨_, _, q, _⟩ := o10.len
            injection q with _ q _
            have := core_len q10
            have := LL.out
            omega
          have DY : Hid (Below w.heap.size w w10 ∧ Blk Q 24 (polL l s) w10) := by
            have ws := DX.out.below b10
            exact ⟨FXH.out.1.below ws.k, FXH.out.1.polk ws.k⟩
          clear o10 q10 box10 b10
          go_wp2_with ((with_reducible refine at_loadG 24 ?_); refine step_loadG (by rfl) 24 _ rfl Q 0 rfl (polL l s) _ (Blk.all DY.out.2) Try.underlying24 rfl SZ.out ?_)
          refine (WK.out _ DY.out.1).mono ?_
          rintro e w11 ⟨rfl, b11⟩
          have B11 : Hid (Below w.heap.size w w11) := below_trans DY.out.1 b11
          clear b11
          go_wp2_with fail
          go_ret
          exact ⟨rfl, B11.out⟩
end Go.Proofs.Ytjbmiihbgelpeaa
