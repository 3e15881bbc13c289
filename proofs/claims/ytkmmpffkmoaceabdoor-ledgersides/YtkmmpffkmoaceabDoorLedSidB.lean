/-
  Ours: balances by side: an account that there is.
-/
import Derived.Test.YtkmmpffkmoaceabDoorLedKept
import Derived.Test.YtkmmpffkmoaceabDoorLedSidM
import Derived.Test.YtkmmpffkmoaceabDoorLedTrial
namespace Go.Proofs.YtkmmpffkmoaceabDoor
open Go.RowKit LedM

set_option maxRecDepth 20000 in
set_option maxHeartbeats 8000000 in
theorem sides_in (l : List Int) (a : Int) (w : World) (hl : BkOk l) (a0 : -9223372036854775808 ≤ a) (a1 : a ≤ 9223372036854775807) (hT : TabD w) (k : Nat) (hk : k < 12) (hak : a = (k : Int)) :
    Calls Tryd.prog 5 #[.agg (bkL l).toArray, .int .i64 a] w fun e w' => e = .returned (.bool true) ∧ Below w.heap.size w w' := by
  have KP : Hid (Kept w [(w.heap.size, l)] (w.alloc (.cells (bkL l).toArray 24))) := Kept.first w l hl.1
  have BAL : Hid (∀ a' w', Below w.heap.size w w' → Calls Tryd.prog 14 #[.agg (bkL l).toArray, .int .i64 a'] w' fun e w2 => e = .returned (.tuple #[.int .i64 (balV l a'), .int .i64 (balE l a')]) ∧ Below w'.heap.size w' w2) := fun a' w' hb => balance_at l a' w' hl (hT.later hb)
  have DEB : Hid (∀ a' w', Below w.heap.size w w' → Calls Tryd.prog 15 #[.int .i64 a'] w' fun e w2 => e = .returned (.bool (isD a')) ∧ w2 = w') := fun a' w' hb => debits_at a' w' (hT.later hb)
  subst hak
  have PS : Hid (∀ w', Below w.heap.size w w' → Calls Tryd.prog 11 #[] w' fun e w2 => e = .returned (.bool true) ∧ Below w'.heap.size w' w2) := fun w' hb => posts_at w' (hT.later hb)
  obtain ⟨E0, hE0⟩ : ∃ E, postE l [] = E := ⟨_, rfl⟩
  have P0 : Hid (∀ w', Below w.heap.size w w' → Calls Tryd.prog 8 #[.agg (bkL l).toArray, .slice none 0 0] w' fun e w2 => e = .returned (.tuple #[.agg (bkL (postB l [])).toArray, .int .i64 E0]) ∧ Below w'.heap.size w' w2) := fun w' hb => by
    have := post_at l [] _ w' hl (fun e he => by cases he) (by simp) (RdE.none w') (hT.later hb)
    rwa [hE0] at this
  have L0 : Hid ((postB l []).length = 12) := (postB_ok hl).1
  have PN : Hid ((E0 == 0) = (sidesB l && rangeB l)) := by show _ = _; rw [← hE0]; exact post_nil hl
  have OS : Hid (∀ w', Below w.heap.size w w' → Calls Tryd.prog 10 #[.agg (bkL l).toArray] w' fun e w2 => e = .returned (.bool (sidesB l)) ∧ Below w'.heap.size w' w2) := fun w' hw => ownSide_at l w' hl (hT.later hw)
  have NL : Hid (∀ w' : World, Calls Tryd.prog 16 #[.agg (bkL l).toArray] w' fun e w2 => e = .returned (.bool (rangeB l)) ∧ Below w'.heap.size w' w2) := fun w' => noLeast_at l w' hl
  obtain ⟨td, XD⟩ : ∃ x, Hid ((if trOk l then trD l else 0) = x) := ⟨_, rfl⟩
  obtain ⟨tc, XC⟩ : ∃ x, Hid ((if trOk l then trC l else 0) = x) := ⟨_, rfl⟩
  obtain ⟨tk, XK⟩ : ∃ x, Hid (trOk l = x) := ⟨_, rfl⟩
  have TR : Hid (∀ w' : World, Calls Tryd.prog 17 #[.agg (bkL l).toArray] w' fun e w2 => e = .returned (.tuple #[.int .i64 td, .int .i64 tc, .bool tk]) ∧ Below w'.heap.size w' w2) := fun w' => by
    have := trial_at l w' hl
    unfold trV at this
    rwa [XD.out, XC.out, XK.out] at this
  have PL : Hid (∀ s k hh ll x (w' : World), WhIs s k hh ll → k ≤ 100 → i64 x → Calls Tryd.prog 18 #[.agg #[.int .i64 hh, .int .i64 ll], .int .i64 x] w' fun e w2 => e = .returned (.agg #[.int .i64 (whH hh x), .int .i64 (whL ll x)]) ∧ Below w'.heap.size w' w2) := fun s k hh ll x w' h1 h2 h3 => plus_at s k hh ll x w' h1 (by omega) h3
  have NO : Hid (∀ s k hh ll (w' : World), WhIs s k hh ll → k ≤ 100 → Calls Tryd.prog 19 #[.agg #[.int .i64 hh, .int .i64 ll]] w' fun e w2 => e = .returned (.bool (decide (s = 0))) ∧ Below w'.heap.size w' w2) := fun s k hh ll w' h1 h2 => nothing_at s k hh ll w' h1 (by omega)
  have HL : Hid (BkOk l) := hl
  have e1 : decide ((k : Int) < 0) = false := decide_eq_false (by omega)
  have e2 : decide (11 < (k : Int)) = false := decide_eq_false (by omega)
  have i0 : (0 : Int) ≤ (k : Int) := by omega
  have i1 : (k : Int) < 12 := by omega
  have HX : Hid (i64 (l.getD k 0)) := hl.2 k
  have c0 := (KP.out.at 0 rfl).2.cell k _ (bkL_at (by rw [hl.1]; exact hk))
  have CX : Hid (∀ w', Kept w [(w.heap.size, l)] w' → w'.cell? ⟨w.heap.size, k, none⟩ = some (.int .i64 (l.getD k 0))) := fun w' hh => (hh.at 0 rfl).2.cell k _ (bkL_at (by rw [(hh.at 0 rfl).1]; exact hk))
  have B1 := BAL.out (k : Int)
  have D1 := DEB.out (k : Int)
  clear hl hT hE0 a0 a1 c0
  cases hd : isD (k : Int)
  · rw [hd] at D1
    by_cases hx : l.getD k 0 = -9223372036854775808
    · obtain ⟨v1, v2⟩ := bal_m hk hd hx
      rw [v1, v2] at B1
      have B1' : Hid (∀ w', Below w.heap.size w w' → Calls Tryd.prog 14 #[.agg (bkL l).toArray, .int .i64 (k : Int)] w' fun e w2 => e = .returned (.tuple #[.int .i64 0, .int .i64 3]) ∧ Below w'.heap.size w' w2) := B1
      have D1' : Hid (∀ w', Below w.heap.size w w' → Calls Tryd.prog 15 #[.int .i64 (k : Int)] w' fun e w2 => e = .returned (.bool false) ∧ w2 = w') := D1
      rw [hx] at CX
      clear v1 v2 B1 D1 hd hx hk HX
      go_enter Tryd.func5, Tryd.ntmps5
      go_wp2_with (first
  | (refine step_get KP.out 0 rfl rfl _ rfl rfl ?_))
      refine (B1'.out _ KP.out.bb).mono ?_
      rintro e w1 ⟨rfl, bw1⟩
      have KP' : Kept _ _ w1 := KP.out.call bw1
      clear KP bw1
      have KP : Hid (Kept _ _ w1) := KP'
      clear KP'
      have c0 := CX.out _ KP.out
      go_wp2_with fail
      refine (D1'.out _ KP.out.bb).mono ?_
      rintro e w9 ⟨rfl, rfl⟩
      go_wp2_with (first
        | (refine step_get KP.out 0 rfl rfl _ rfl rfl ?_))
      refine (P0.out _ KP.out.bb).mono ?_
      rintro e w2 ⟨rfl, bw2⟩
      have KP' : Kept _ _ w2 := KP.out.call bw2
      clear KP bw2
      have KP : Hid (Kept _ _ w2) := KP'
      clear KP'
      go_wp2_with (first
        | (refine step_put KP.out (postB l []) L0.out rfl _ _ rfl rfl rfl ?_; clear KP; intro w3 KP'; intro _; have KP : Hid (Kept _ _ _) := KP'; clear KP')
        | (refine step_get KP.out 1 rfl rfl _ rfl rfl ?_))
      refine (OS.out _ KP.out.bb).mono ?_
      rintro e w4 ⟨rfl, bw4⟩
      have KP' : Kept _ _ w4 := KP.out.call bw4
      clear KP bw4
      have KP : Hid (Kept _ _ w4) := KP'
      clear KP'
      cases hs : sidesB l
      · rw [hs] at PN
        have PN' : Hid ((E0 == 0) = false) := PN.out
        have ez : (E0 == 0) = false := PN.out
        have en : (E0 != 0) = true := by unfold bne; rw [ez]; rfl
        clear PN PN'
        go_wp2_with (first
        | (refine step_get KP.out 1 rfl rfl _ rfl rfl ?_))
        refine (TR.out _).mono ?_
        rintro e w5 ⟨rfl, bw5⟩
        have KP' : Kept _ _ w5 := KP.out.call bw5
        clear KP bw5
        have KP : Hid (Kept _ _ w5) := KP'
        clear KP'
        go_wp2_with fail
        refine (PS.out _ KP.out.bb).mono ?_
        rintro e wp ⟨rfl, bwp⟩
        have KP' : Kept _ _ wp := KP.out.call bwp
        clear KP bwp
        have KP : Hid (Kept _ _ wp) := KP'
        clear KP'
        go_wp2_with fail
        go_ret
        exact ⟨rfl, KP.out.bb⟩
      · rw [hs] at PN
        go_wp2_with (first
        | (refine step_getG KP.out 1 rfl rfl _ rfl rfl ?_))
        refine (NL.out _).mono ?_
        rintro e w5 ⟨rfl, bw5⟩
        have KP' : Kept _ _ w5 := KP.out.call bw5
        clear KP bw5
        have KP : Hid (Kept _ _ w5) := KP'
        clear KP'
        cases hr : rangeB l
        · rw [hr] at PN
          have ez : (E0 == 0) = false := PN.out
          have en : (E0 != 0) = true := by unfold bne; rw [ez]; rfl
          clear PN
          go_wp2_with (first
        | (refine step_get KP.out 1 rfl rfl _ rfl rfl ?_))
          refine (TR.out _).mono ?_
          rintro e w6 ⟨rfl, bw6⟩
          have KP' : Kept _ _ w6 := KP.out.call bw6
          clear KP bw6
          have KP : Hid (Kept _ _ w6) := KP'
          clear KP'
          go_wp2_with fail
          refine (PS.out _ KP.out.bb).mono ?_
          rintro e wp ⟨rfl, bwp⟩
          have KP' : Kept _ _ wp := KP.out.call bwp
          clear KP bwp
          have KP : Hid (Kept _ _ wp) := KP'
          clear KP'
          go_wp2_with fail
          go_ret
          exact ⟨rfl, KP.out.bb⟩
        · rw [hr] at PN
          have ez : (E0 == 0) = true := PN.out
          have en : (E0 != 0) = false := by unfold bne; rw [ez]; rfl
          clear PN
          go_wp2_with (first
        | (refine step_get KP.out 1 rfl rfl _ rfl rfl ?_))
          refine (TR.out _).mono ?_
          rintro e w6 ⟨rfl, bw6⟩
          have KP' : Kept _ _ w6 := KP.out.call bw6
          clear KP bw6
          have KP : Hid (Kept _ _ w6) := KP'
          clear KP'
          cases tk
          · go_wp2_with fail
            refine (PS.out _ KP.out.bb).mono ?_
            rintro e wp ⟨rfl, bwp⟩
            have KP' : Kept _ _ wp := KP.out.call bwp
            clear KP bwp
            have KP : Hid (Kept _ _ wp) := KP'
            clear KP'
            go_wp2_with fail
            go_ret
            exact ⟨rfl, KP.out.bb⟩
          · have TDC : Hid (td = trD l ∧ tc = trC l ∧ 0 ≤ td ∧ td ≤ 9223372036854775807 ∧ 0 ≤ tc ∧ tc ≤ 9223372036854775807) := by
              have k1 := XK.out
              have d1 := XD.out
              have c1 := XC.out
              rw [k1, if_pos rfl] at d1 c1
              unfold trOk at k1
              simp only [Bool.and_eq_true] at k1
              have m1 : -9223372036854775808 ≤ trD l ∧ trD l ≤ 9223372036854775807 := of_decide_eq_true k1.1
              have m2 : -9223372036854775808 ≤ trC l ∧ trC l ≤ 9223372036854775807 := of_decide_eq_true k1.2
              have := trD_pos l
              have := trC_pos l
              show _ ∧ _
              omega
            have BJ : Hid (∀ j : Nat, j < 12 → balE l (j : Int) = 0 ∧ i64 (balV l (j : Int))) := fun j hj => by
              have hb := HL.out.2 j
              cases hdj : isD (j : Int)
              · have r := range_at hr hj
                obtain ⟨q1, q2⟩ := bal_c hj hdj r
                rw [q1]
                unfold i64 at *
                exact ⟨q2, by omega⟩
              · obtain ⟨q1, q2⟩ := bal_d (l := l) hj hdj
                rw [q1]; exact ⟨q2, hb⟩
            have FIN : Hid (debS l 12 = td ∧ creS l 12 = tc) := ⟨(deb_all HL.out.1 hs).trans TDC.out.1.symm, (cre_all HL.out.1 hs hr).trans TDC.out.2.1.symm⟩
            have z0 : decide (td < 0) = false := decide_eq_false (by have := TDC.out; omega)
            have z1 : decide (tc < 0) = false := decide_eq_false (by have := TDC.out; omega)
            have n0 : wrap64 (-td) = -td := by have := TDC.out; unfold wrap64; omega
            have n1 : wrap64 (-tc) = -tc := by have := TDC.out; unfold wrap64; omega
            have N1 : Hid (Blk w6.heap.size 44 [.int .i64 0, .int .i64 0] (w6.alloc (.cells #[.int .i64 0, .int .i64 0] 44))) := Blk.new 44 [.int .i64 0, .int .i64 0] w6
            clear XD XC XK hs hr OS NL TR
            have s6 : Hid (∀ p ∈ [(w2.heap.size, postB l []), (w.heap.size, l)], p.1 < w6.heap.size) := KP.out.lt
            go_wp2_with (first
              | (refine step_store rfl 44 _ _ rfl w6.heap.size 0 44 [.int .i64 0, .int .i64 0] [.int .i64 0, .int .i64 0] rfl rfl N1.out (Nat.le_refl _) infoH (oneH _ _) ?_; intro w7 nb7 g7; have K7 : Hid (Kept w [(w2.heap.size, postB l []), (w.heap.size, l)] w7) := (KP.out.alloc _).grown g7 (fun g' e => by cases e; exact ⟨KP.out.bb.size, s6.out⟩); have M7 : Hid (Blk w6.heap.size 44 [.int .i64 0, .int .i64 0] w7) := nb7; clear nb7 g7)
              | (refine step_store rfl 44 _ _ rfl w7.heap.size 0 44 [.int .i64 0, .int .i64 0] [.int .i64 0, .int .i64 0] rfl rfl (Blk.new 44 [.int .i64 0, .int .i64 0] w7) (Nat.le_refl _) infoH (oneH _ _) ?_; intro w8 nb8 g8; have K8 : Hid (Kept w [(w2.heap.size, postB l []), (w.heap.size, l)] w8) := (K7.out.alloc _).grown g8 (fun g' e => by cases e; exact ⟨K7.out.bb.size, K7.out.lt⟩); have M8 : Hid (Blk w6.heap.size 44 [.int .i64 0, .int .i64 0] w8) := (M7.out.old _).grown g8 (by have := M7.out.lt; simp; omega); have V8 : Hid (Blk w7.heap.size 44 [.int .i64 0, .int .i64 0] w8) := nb8; have LT : Hid (w6.heap.size < w7.heap.size ∧ w.heap.size ≤ w6.heap.size ∧ w.heap.size ≤ w7.heap.size ∧ (∀ p ∈ [(w2.heap.size, postB l []), (w.heap.size, l)], p.1 < w7.heap.size)) := ⟨M7.out.lt, KP.out.bb.size, K7.out.bb.size, K7.out.lt⟩; clear nb8 g8 N1 K7 M7))
            clear KP
            go_loopw [16, 17, 18] (fun vj _ _ wx => ∃ (j : Nat) (hw lw hv lv : Int), vj = .int .i64 (j : Int) ∧ j ≤ 12 ∧ Hid (WhIs (debS l j) j hw lw) ∧ Hid (WhIs (creS l j) j hv lv) ∧ Blk w6.heap.size 44 [.int .i64 hw, .int .i64 lw] wx ∧ Blk w7.heap.size 44 [.int .i64 hv, .int .i64 lv] wx ∧ Kept w [(w2.heap.size, postB l []), (w.heap.size, l)] wx) (fun vj _ _ _ => 12 - (intOf vj).toNat)
            case atStart => exact ⟨0, 0, 0, 0, 0, rfl, by omega, (show WhIs (debS l 0) 0 0 0 from wh_zero), (show WhIs (creS l 0) 0 0 0 from wh_zero), M8.out, V8.out, K8.out⟩
            case round =>
              clear M8 V8 K8
              obtain ⟨j, hw, lw, hv, lv, rfl, hj, WI, VI, mw, mv, kw⟩ := hrel
              have KP : Hid (Kept w [(w2.heap.size, postB l []), (w.heap.size, l)] wr) := kw
              by_cases hjl : (j : Int) < 12
              · obtain ⟨be, bi⟩ := BJ.out j (by omega)
                have B2 : Hid (∀ w', Below w.heap.size w w' → Calls Tryd.prog 14 #[.agg (bkL l).toArray, .int .i64 (j : Int)] w' fun e w2 => e = .returned (.tuple #[.int .i64 (balV l (j : Int)), .int .i64 0]) ∧ Below w'.heap.size w' w2) := fun w' hb => by have := BAL.out (j : Int) w' hb; rwa [be] at this
                have D2 : Hid (∀ w', Below w.heap.size w w' → Calls Tryd.prog 15 #[.int .i64 (j : Int)] w' fun e w2 => e = .returned (.bool (isD (j : Int))) ∧ w2 = w') := DEB.out _
                have P1 : Hid (∀ w' : World, Calls Tryd.prog 18 #[.agg #[.int .i64 hw, .int .i64 lw], .int .i64 (balV l (j : Int))] w' fun e w2 => e = .returned (.agg #[.int .i64 (whH hw (balV l (j : Int))), .int .i64 (whL lw (balV l (j : Int)))]) ∧ Below w'.heap.size w' w2) := fun w' => PL.out _ _ _ _ _ w' WI.out (by omega) bi
                have P2 : Hid (∀ w' : World, Calls Tryd.prog 18 #[.agg #[.int .i64 hv, .int .i64 lv], .int .i64 (balV l (j : Int))] w' fun e w2 => e = .returned (.agg #[.int .i64 (whH hv (balV l (j : Int))), .int .i64 (whL lv (balV l (j : Int)))]) ∧ Below w'.heap.size w' w2) := fun w' => PL.out _ _ _ _ _ w' VI.out (by omega) bi
                have Y1 : Hid (isD (j : Int) = true → WhIs (debS l (j + 1)) (j + 1) (whH hw (balV l (j : Int))) (whL lw (balV l (j : Int))) ∧ WhIs (creS l (j + 1)) (j + 1) hv lv) := fun h => by
                  rw [debS_succ, creS_succ, h, if_pos rfl, if_pos rfl, Int.add_zero]
                  exact ⟨wh_plus WI.out bi, wh_mono VI.out⟩
                have Y2 : Hid (isD (j : Int) = false → WhIs (debS l (j + 1)) (j + 1) hw lw ∧ WhIs (creS l (j + 1)) (j + 1) (whH hv (balV l (j : Int))) (whL lv (balV l (j : Int)))) := fun h => by
                  rw [debS_succ, creS_succ, h]
                  simp only [Bool.false_eq_true, if_false, Int.add_zero]
                  exact ⟨wh_mono WI.out, wh_plus VI.out bi⟩
                have MW : Hid (Blk w6.heap.size 44 [.int .i64 hw, .int .i64 lw] wr ∧ Blk w7.heap.size 44 [.int .i64 hv, .int .i64 lv] wr) := ⟨mw, mv⟩
                generalize whH hw (balV l (j : Int)) = hw2 at *
                generalize whL lw (balV l (j : Int)) = lw2 at *
                generalize whH hv (balV l (j : Int)) = hv2 at *
                generalize whL lv (balV l (j : Int)) = lv2 at *
                generalize balV l (j : Int) = bx at *
                generalize isD (j : Int) = sd at *
                clear be bi mw mv kw WI VI BAL DEB PL NO BJ PS
                go_wp2_with (first
        | (refine step_get KP.out 1 rfl rfl _ rfl rfl ?_))
                refine (B2.out _ KP.out.bb).mono ?_
                rintro e wa ⟨rfl, ba⟩
                have KP' : Kept w _ wa := KP.out.call ba
                have MA : Hid (Blk w6.heap.size 44 [.int .i64 hw, .int .i64 lw] wa ∧ Blk w7.heap.size 44 [.int .i64 hv, .int .i64 lv] wa) := ⟨MW.out.1.below ba, MW.out.2.below ba⟩
                clear KP MW ba
                have KP : Hid (Kept w [(w2.heap.size, postB l []), (w.heap.size, l)] wa) := KP'
                clear KP'
                go_wp2_with fail
                refine (D2.out _ KP.out.bb).mono ?_
                rintro e wb ⟨rfl, rfl⟩
                have NA : Hid (Blk w6.heap.size 44 [.int .i64 hw, .int .i64 lw] wb) := MA.out.1
                have NB : Hid (Blk w7.heap.size 44 [.int .i64 hv, .int .i64 lv] wb) := MA.out.2
                clear MA
                cases sd
                · obtain ⟨y1, y2⟩ := Y2.out (by first | rfl | trivial)
                  have YY : Hid (WhIs (debS l (j + 1)) (j + 1) hw lw ∧ WhIs (creS l (j + 1)) (j + 1) hv2 lv2) := ⟨y1, y2⟩
                  clear Y1 Y2 y1 y2
                  go_wp2_with (first
        | (refine step_load rfl 44 _ rfl w7.heap.size 0 rfl [.int .i64 hv, .int .i64 lv] _ NB.out.all Tryd.underlying44 rfl infoH ?_))
                  refine (P2.out _).mono ?_
                  rintro e wd ⟨rfl, bd⟩
                  have K9 : Hid (Kept w _ wd) := KP.out.call bd
                  have A9 : Hid (Blk w6.heap.size 44 [.int .i64 hw, .int .i64 lw] wd) := NA.out.below bd
                  have B9 : Hid (Blk w7.heap.size 44 [.int .i64 hv, .int .i64 lv] wd) := NB.out.below bd
                  clear bd KP NA NB
                  go_wp2_with (refine step_store rfl 44 _ _ rfl w7.heap.size 0 44 [.int .i64 hv, .int .i64 lv] [.int .i64 hv2, .int .i64 lv2] rfl rfl B9.out (Nat.le_refl _) infoH (oneH _ _) ?_; intro we nbe ge)
                  go_roundw
                  case rel => exact ⟨j + 1, hw, lw, hv2, lv2, by go_num, by omega, YY.out.1, YY.out.2, A9.out.grown ge (by have := LT.out; simp; omega), nbe, K9.out.grown ge (fun g' e => by cases e; exact ⟨LT.out.2.2.1, LT.out.2.2.2⟩)⟩
                  case measure => simp [intOf]; omega
                · obtain ⟨y1, y2⟩ := Y1.out (by first | rfl | trivial)
                  have YY : Hid (WhIs (debS l (j + 1)) (j + 1) hw2 lw2 ∧ WhIs (creS l (j + 1)) (j + 1) hv lv) := ⟨y1, y2⟩
                  clear Y1 Y2 y1 y2
                  go_wp2_with (first
        | (refine step_load rfl 44 _ rfl w6.heap.size 0 rfl [.int .i64 hw, .int .i64 lw] _ NA.out.all Tryd.underlying44 rfl infoH ?_))
                  refine (P1.out _).mono ?_
                  rintro e wd ⟨rfl, bd⟩
                  have K9 : Hid (Kept w _ wd) := KP.out.call bd
                  have A9 : Hid (Blk w6.heap.size 44 [.int .i64 hw, .int .i64 lw] wd) := NA.out.below bd
                  have B9 : Hid (Blk w7.heap.size 44 [.int .i64 hv, .int .i64 lv] wd) := NB.out.below bd
                  clear bd KP NA NB
                  go_wp2_with (refine step_store rfl 44 _ _ rfl w6.heap.size 0 44 [.int .i64 hw, .int .i64 lw] [.int .i64 hw2, .int .i64 lw2] rfl rfl A9.out (Nat.le_refl _) infoH (oneH _ _) ?_; intro we nbe ge)
                  go_roundw
                  case rel => exact ⟨j + 1, hw2, lw2, hv, lv, by go_num, by omega, YY.out.1, YY.out.2, nbe, B9.out.grown ge (by have := LT.out; simp; omega), K9.out.grown ge (fun g' e => by cases e; exact ⟨LT.out.2.1, s6.out⟩)⟩
                  case measure => simp [intOf]; omega
              · obtain rfl : j = 12 := by omega
                have bt : i64 (-td) := by have := TDC.out; unfold i64; omega
                have bc : i64 (-tc) := by have := TDC.out; unfold i64; omega
                have WF : WhIs (0 : Int) 13 (whH hw (-td)) (whL lw (-td)) := by
                  have := wh_plus WI.out bt
                  rwa [FIN.out.1, show td + -td = 0 from by omega] at this
                have VF : WhIs (0 : Int) 13 (whH hv (-tc)) (whL lv (-tc)) := by
                  have := wh_plus VI.out bc
                  rwa [FIN.out.2, show tc + -tc = 0 from by omega] at this
                have P1 : Hid (∀ w' : World, Calls Tryd.prog 18 #[.agg #[.int .i64 hw, .int .i64 lw], .int .i64 (-td)] w' fun e w2 => e = .returned (.agg #[.int .i64 (whH hw (-td)), .int .i64 (whL lw (-td))]) ∧ Below w'.heap.size w' w2) := fun w' => PL.out _ _ _ _ _ w' WI.out (by omega) bt
                have P2 : Hid (∀ w' : World, Calls Tryd.prog 18 #[.agg #[.int .i64 hv, .int .i64 lv], .int .i64 (-tc)] w' fun e w2 => e = .returned (.agg #[.int .i64 (whH hv (-tc)), .int .i64 (whL lv (-tc))]) ∧ Below w'.heap.size w' w2) := fun w' => PL.out _ _ _ _ _ w' VI.out (by omega) bc
                have Q1 : Hid (∀ w' : World, Calls Tryd.prog 19 #[.agg #[.int .i64 (whH hw (-td)), .int .i64 (whL lw (-td))]] w' fun e w2 => e = .returned (.bool true) ∧ Below w'.heap.size w' w2) := fun w' => by have := NO.out _ _ _ _ w' WF (by omega); rwa [decide_eq_true rfl] at this
                have Q2 : Hid (∀ w' : World, Calls Tryd.prog 19 #[.agg #[.int .i64 (whH hv (-tc)), .int .i64 (whL lv (-tc))]] w' fun e w2 => e = .returned (.bool true) ∧ Below w'.heap.size w' w2) := fun w' => by have := NO.out _ _ _ _ w' VF (by omega); rwa [decide_eq_true rfl] at this
                have NA : Hid (Blk w6.heap.size 44 [.int .i64 hw, .int .i64 lw] wr) := mw
                have NB : Hid (Blk w7.heap.size 44 [.int .i64 hv, .int .i64 lv] wr) := mv
                generalize whH hw (-td) = hw2 at *
                generalize whL lw (-td) = lw2 at *
                generalize whH hv (-tc) = hv2 at *
                generalize whL lv (-tc) = lv2 at *
                clear mw mv kw WI VI BAL DEB PL NO BJ WF VF bt bc FIN TDC
                go_wp2_with (first
        | (refine step_load rfl 44 _ rfl w6.heap.size 0 rfl [.int .i64 hw, .int .i64 lw] _ NA.out.all Tryd.underlying44 rfl infoH ?_))
                refine (P1.out _).mono ?_
                rintro e wa ⟨rfl, ba⟩
                have K2 : Hid (Kept w _ wa) := KP.out.call ba
                have NB2 : Hid (Blk w7.heap.size 44 [.int .i64 hv, .int .i64 lv] wa) := NB.out.below ba
                clear KP NB NA ba
                go_wp2_with fail
                refine (Q1.out _).mono ?_
                rintro e wb ⟨rfl, bb⟩
                have K3 : Hid (Kept w _ wb) := K2.out.call bb
                have NB3 : Hid (Blk w7.heap.size 44 [.int .i64 hv, .int .i64 lv] wb) := NB2.out.below bb
                clear K2 NB2 bb
                go_wp2_with (first
        | (refine step_loadG rfl 44 _ rfl w7.heap.size 0 rfl [.int .i64 hv, .int .i64 lv] _ NB3.out.all Tryd.underlying44 rfl infoH ?_))
                refine (P2.out _).mono ?_
                rintro e wd ⟨rfl, bd⟩
                have K4 : Hid (Kept w _ wd) := K3.out.call bd
                clear K3 NB3 bd
                go_wp2_with fail
                refine (Q2.out _).mono ?_
                rintro e we ⟨rfl, be⟩
                have KP : Hid (Kept w [(w2.heap.size, postB l []), (w.heap.size, l)] we) := K4.out.call be
                clear K4 be
                go_wp2_with fail
                refine (PS.out _ KP.out.bb).mono ?_
                rintro e wp ⟨rfl, bwp⟩
                have KP' : Kept _ _ wp := KP.out.call bwp
                clear KP bwp
                have KP : Hid (Kept _ _ wp) := KP'
                clear KP'
                go_wp2_with fail
                go_ret
                exact ⟨rfl, KP.out.bb⟩
    · obtain ⟨v1, v2⟩ := bal_c hk hd hx
      rw [v1, v2] at B1
      have B1' : Hid (∀ w', Below w.heap.size w w' → Calls Tryd.prog 14 #[.agg (bkL l).toArray, .int .i64 (k : Int)] w' fun e w2 => e = .returned (.tuple #[.int .i64 (-(l.getD k 0)), .int .i64 0]) ∧ Below w'.heap.size w' w2) := B1
      have D1' : Hid (∀ w', Below w.heap.size w w' → Calls Tryd.prog 15 #[.int .i64 (k : Int)] w' fun e w2 => e = .returned (.bool false) ∧ w2 = w') := D1
      generalize l.getD k 0 = x at *
      have f1 : (x == -9223372036854775808) = false := beq_eq_false_iff_ne.2 hx
      have f2 : wrap64 (-x) = -x := by have := HX.out; unfold i64 at this; unfold wrap64; omega
      have f3 : (-x != -x) = false := by simp
      clear v1 v2 B1 D1 hd hx hk HX
      go_enter Tryd.func5, Tryd.ntmps5
      go_wp2_with (first
        | (refine step_get KP.out 0 rfl rfl _ rfl rfl ?_))
      refine (B1'.out _ KP.out.bb).mono ?_
      rintro e w1 ⟨rfl, bw1⟩
      have KP' : Kept _ _ w1 := KP.out.call bw1
      clear KP bw1
      have KP : Hid (Kept _ _ w1) := KP'
      clear KP'
      have c0 := CX.out _ KP.out
      go_wp2_with fail
      refine (D1'.out _ KP.out.bb).mono ?_
      rintro e w9 ⟨rfl, rfl⟩
      go_wp2_with (first
        | (refine step_get KP.out 0 rfl rfl _ rfl rfl ?_))
      refine (P0.out _ KP.out.bb).mono ?_
      rintro e w2 ⟨rfl, bw2⟩
      have KP' : Kept _ _ w2 := KP.out.call bw2
      clear KP bw2
      have KP : Hid (Kept _ _ w2) := KP'
      clear KP'
      go_wp2_with (first
        | (refine step_put KP.out (postB l []) L0.out rfl _ _ rfl rfl rfl ?_; clear KP; intro w3 KP'; intro _; have KP : Hid (Kept _ _ _) := KP'; clear KP')
        | (refine step_get KP.out 1 rfl rfl _ rfl rfl ?_))
      refine (OS.out _ KP.out.bb).mono ?_
      rintro e w4 ⟨rfl, bw4⟩
      have KP' : Kept _ _ w4 := KP.out.call bw4
      clear KP bw4
      have KP : Hid (Kept _ _ w4) := KP'
      clear KP'
      cases hs : sidesB l
      · rw [hs] at PN
        have PN' : Hid ((E0 == 0) = false) := PN.out
        have ez : (E0 == 0) = false := PN.out
        have en : (E0 != 0) = true := by unfold bne; rw [ez]; rfl
        clear PN PN'
        go_wp2_with (first
        | (refine step_get KP.out 1 rfl rfl _ rfl rfl ?_))
        refine (TR.out _).mono ?_
        rintro e w5 ⟨rfl, bw5⟩
        have KP' : Kept _ _ w5 := KP.out.call bw5
        clear KP bw5
        have KP : Hid (Kept _ _ w5) := KP'
        clear KP'
        go_wp2_with fail
        refine (PS.out _ KP.out.bb).mono ?_
        rintro e wp ⟨rfl, bwp⟩
        have KP' : Kept _ _ wp := KP.out.call bwp
        clear KP bwp
        have KP : Hid (Kept _ _ wp) := KP'
        clear KP'
        go_wp2_with fail
        go_ret
        exact ⟨rfl, KP.out.bb⟩
      · rw [hs] at PN
        go_wp2_with (first
        | (refine step_getG KP.out 1 rfl rfl _ rfl rfl ?_))
        refine (NL.out _).mono ?_
        rintro e w5 ⟨rfl, bw5⟩
        have KP' : Kept _ _ w5 := KP.out.call bw5
        clear KP bw5
        have KP : Hid (Kept _ _ w5) := KP'
        clear KP'
        cases hr : rangeB l
        · rw [hr] at PN
          have ez : (E0 == 0) = false := PN.out
          have en : (E0 != 0) = true := by unfold bne; rw [ez]; rfl
          clear PN
          go_wp2_with (first
        | (refine step_get KP.out 1 rfl rfl _ rfl rfl ?_))
          refine (TR.out _).mono ?_
          rintro e w6 ⟨rfl, bw6⟩
          have KP' : Kept _ _ w6 := KP.out.call bw6
          clear KP bw6
          have KP : Hid (Kept _ _ w6) := KP'
          clear KP'
          go_wp2_with fail
          refine (PS.out _ KP.out.bb).mono ?_
          rintro e wp ⟨rfl, bwp⟩
          have KP' : Kept _ _ wp := KP.out.call bwp
          clear KP bwp
          have KP : Hid (Kept _ _ wp) := KP'
          clear KP'
          go_wp2_with fail
          go_ret
          exact ⟨rfl, KP.out.bb⟩
        · rw [hr] at PN
          have ez : (E0 == 0) = true := PN.out
          have en : (E0 != 0) = false := by unfold bne; rw [ez]; rfl
          clear PN
          go_wp2_with (first
        | (refine step_get KP.out 1 rfl rfl _ rfl rfl ?_))
          refine (TR.out _).mono ?_
          rintro e w6 ⟨rfl, bw6⟩
          have KP' : Kept _ _ w6 := KP.out.call bw6
          clear KP bw6
          have KP : Hid (Kept _ _ w6) := KP'
          clear KP'
          cases tk
          · go_wp2_with fail
            refine (PS.out _ KP.out.bb).mono ?_
            rintro e wp ⟨rfl, bwp⟩
            have KP' : Kept _ _ wp := KP.out.call bwp
            clear KP bwp
            have KP : Hid (Kept _ _ wp) := KP'
            clear KP'
            go_wp2_with fail
            go_ret
            exact ⟨rfl, KP.out.bb⟩
          · have TDC : Hid (td = trD l ∧ tc = trC l ∧ 0 ≤ td ∧ td ≤ 9223372036854775807 ∧ 0 ≤ tc ∧ tc ≤ 9223372036854775807) := by
              have k1 := XK.out
              have d1 := XD.out
              have c1 := XC.out
              rw [k1, if_pos rfl] at d1 c1
              unfold trOk at k1
              simp only [Bool.and_eq_true] at k1
              have m1 : -9223372036854775808 ≤ trD l ∧ trD l ≤ 9223372036854775807 := of_decide_eq_true k1.1
              have m2 : -9223372036854775808 ≤ trC l ∧ trC l ≤ 9223372036854775807 := of_decide_eq_true k1.2
              have := trD_pos l
              have := trC_pos l
              show _ ∧ _
              omega
            have BJ : Hid (∀ j : Nat, j < 12 → balE l (j : Int) = 0 ∧ i64 (balV l (j : Int))) := fun j hj => by
              have hb := HL.out.2 j
              cases hdj : isD (j : Int)
              · have r := range_at hr hj
                obtain ⟨q1, q2⟩ := bal_c hj hdj r
                rw [q1]
                unfold i64 at *
                exact ⟨q2, by omega⟩
              · obtain ⟨q1, q2⟩ := bal_d (l := l) hj hdj
                rw [q1]; exact ⟨q2, hb⟩
            have FIN : Hid (debS l 12 = td ∧ creS l 12 = tc) := ⟨(deb_all HL.out.1 hs).trans TDC.out.1.symm, (cre_all HL.out.1 hs hr).trans TDC.out.2.1.symm⟩
            have z0 : decide (td < 0) = false := decide_eq_false (by have := TDC.out; omega)
            have z1 : decide (tc < 0) = false := decide_eq_false (by have := TDC.out; omega)
            have n0 : wrap64 (-td) = -td := by have := TDC.out; unfold wrap64; omega
            have n1 : wrap64 (-tc) = -tc := by have := TDC.out; unfold wrap64; omega
            have N1 : Hid (Blk w6.heap.size 44 [.int .i64 0, .int .i64 0] (w6.alloc (.cells #[.int .i64 0, .int .i64 0] 44))) := Blk.new 44 [.int .i64 0, .int .i64 0] w6
            clear XD XC XK hs hr OS NL TR
            have s6 : Hid (∀ p ∈ [(w2.heap.size, postB l []), (w.heap.size, l)], p.1 < w6.heap.size) := KP.out.lt
            go_wp2_with (first
              | (refine step_store rfl 44 _ _ rfl w6.heap.size 0 44 [.int .i64 0, .int .i64 0] [.int .i64 0, .int .i64 0] rfl rfl N1.out (Nat.le_refl _) infoH (oneH _ _) ?_; intro w7 nb7 g7; have K7 : Hid (Kept w [(w2.heap.size, postB l []), (w.heap.size, l)] w7) := (KP.out.alloc _).grown g7 (fun g' e => by cases e; exact ⟨KP.out.bb.size, s6.out⟩); have M7 : Hid (Blk w6.heap.size 44 [.int .i64 0, .int .i64 0] w7) := nb7; clear nb7 g7)
              | (refine step_store rfl 44 _ _ rfl w7.heap.size 0 44 [.int .i64 0, .int .i64 0] [.int .i64 0, .int .i64 0] rfl rfl (Blk.new 44 [.int .i64 0, .int .i64 0] w7) (Nat.le_refl _) infoH (oneH _ _) ?_; intro w8 nb8 g8; have K8 : Hid (Kept w [(w2.heap.size, postB l []), (w.heap.size, l)] w8) := (K7.out.alloc _).grown g8 (fun g' e => by cases e; exact ⟨K7.out.bb.size, K7.out.lt⟩); have M8 : Hid (Blk w6.heap.size 44 [.int .i64 0, .int .i64 0] w8) := (M7.out.old _).grown g8 (by have := M7.out.lt; simp; omega); have V8 : Hid (Blk w7.heap.size 44 [.int .i64 0, .int .i64 0] w8) := nb8; have LT : Hid (w6.heap.size < w7.heap.size ∧ w.heap.size ≤ w6.heap.size ∧ w.heap.size ≤ w7.heap.size ∧ (∀ p ∈ [(w2.heap.size, postB l []), (w.heap.size, l)], p.1 < w7.heap.size)) := ⟨M7.out.lt, KP.out.bb.size, K7.out.bb.size, K7.out.lt⟩; clear nb8 g8 N1 K7 M7))
            clear KP
            go_loopw [16, 17, 18] (fun vj _ _ wx => ∃ (j : Nat) (hw lw hv lv : Int), vj = .int .i64 (j : Int) ∧ j ≤ 12 ∧ Hid (WhIs (debS l j) j hw lw) ∧ Hid (WhIs (creS l j) j hv lv) ∧ Blk w6.heap.size 44 [.int .i64 hw, .int .i64 lw] wx ∧ Blk w7.heap.size 44 [.int .i64 hv, .int .i64 lv] wx ∧ Kept w [(w2.heap.size, postB l []), (w.heap.size, l)] wx) (fun vj _ _ _ => 12 - (intOf vj).toNat)
            case atStart => exact ⟨0, 0, 0, 0, 0, rfl, by omega, (show WhIs (debS l 0) 0 0 0 from wh_zero), (show WhIs (creS l 0) 0 0 0 from wh_zero), M8.out, V8.out, K8.out⟩
            case round =>
              clear M8 V8 K8
              obtain ⟨j, hw, lw, hv, lv, rfl, hj, WI, VI, mw, mv, kw⟩ := hrel
              have KP : Hid (Kept w [(w2.heap.size, postB l []), (w.heap.size, l)] wr) := kw
              by_cases hjl : (j : Int) < 12
              · obtain ⟨be, bi⟩ := BJ.out j (by omega)
                have B2 : Hid (∀ w', Below w.heap.size w w' → Calls Tryd.prog 14 #[.agg (bkL l).toArray, .int .i64 (j : Int)] w' fun e w2 => e = .returned (.tuple #[.int .i64 (balV l (j : Int)), .int .i64 0]) ∧ Below w'.heap.size w' w2) := fun w' hb => by have := BAL.out (j : Int) w' hb; rwa [be] at this
                have D2 : Hid (∀ w', Below w.heap.size w w' → Calls Tryd.prog 15 #[.int .i64 (j : Int)] w' fun e w2 => e = .returned (.bool (isD (j : Int))) ∧ w2 = w') := DEB.out _
                have P1 : Hid (∀ w' : World, Calls Tryd.prog 18 #[.agg #[.int .i64 hw, .int .i64 lw], .int .i64 (balV l (j : Int))] w' fun e w2 => e = .returned (.agg #[.int .i64 (whH hw (balV l (j : Int))), .int .i64 (whL lw (balV l (j : Int)))]) ∧ Below w'.heap.size w' w2) := fun w' => PL.out _ _ _ _ _ w' WI.out (by omega) bi
                have P2 : Hid (∀ w' : World, Calls Tryd.prog 18 #[.agg #[.int .i64 hv, .int .i64 lv], .int .i64 (balV l (j : Int))] w' fun e w2 => e = .returned (.agg #[.int .i64 (whH hv (balV l (j : Int))), .int .i64 (whL lv (balV l (j : Int)))]) ∧ Below w'.heap.size w' w2) := fun w' => PL.out _ _ _ _ _ w' VI.out (by omega) bi
                have Y1 : Hid (isD (j : Int) = true → WhIs (debS l (j + 1)) (j + 1) (whH hw (balV l (j : Int))) (whL lw (balV l (j : Int))) ∧ WhIs (creS l (j + 1)) (j + 1) hv lv) := fun h => by
                  rw [debS_succ, creS_succ, h, if_pos rfl, if_pos rfl, Int.add_zero]
                  exact ⟨wh_plus WI.out bi, wh_mono VI.out⟩
                have Y2 : Hid (isD (j : Int) = false → WhIs (debS l (j + 1)) (j + 1) hw lw ∧ WhIs (creS l (j + 1)) (j + 1) (whH hv (balV l (j : Int))) (whL lv (balV l (j : Int)))) := fun h => by
                  rw [debS_succ, creS_succ, h]
                  simp only [Bool.false_eq_true, if_false, Int.add_zero]
                  exact ⟨wh_mono WI.out, wh_plus VI.out bi⟩
                have MW : Hid (Blk w6.heap.size 44 [.int .i64 hw, .int .i64 lw] wr ∧ Blk w7.heap.size 44 [.int .i64 hv, .int .i64 lv] wr) := ⟨mw, mv⟩
                generalize whH hw (balV l (j : Int)) = hw2 at *
                generalize whL lw (balV l (j : Int)) = lw2 at *
                generalize whH hv (balV l (j : Int)) = hv2 at *
                generalize whL lv (balV l (j : Int)) = lv2 at *
                generalize balV l (j : Int) = bx at *
                generalize isD (j : Int) = sd at *
                clear be bi mw mv kw WI VI BAL DEB PL NO BJ PS
                go_wp2_with (first
        | (refine step_get KP.out 1 rfl rfl _ rfl rfl ?_))
                refine (B2.out _ KP.out.bb).mono ?_
                rintro e wa ⟨rfl, ba⟩
                have KP' : Kept w _ wa := KP.out.call ba
                have MA : Hid (Blk w6.heap.size 44 [.int .i64 hw, .int .i64 lw] wa ∧ Blk w7.heap.size 44 [.int .i64 hv, .int .i64 lv] wa) := ⟨MW.out.1.below ba, MW.out.2.below ba⟩
                clear KP MW ba
                have KP : Hid (Kept w [(w2.heap.size, postB l []), (w.heap.size, l)] wa) := KP'
                clear KP'
                go_wp2_with fail
                refine (D2.out _ KP.out.bb).mono ?_
                rintro e wb ⟨rfl, rfl⟩
                have NA : Hid (Blk w6.heap.size 44 [.int .i64 hw, .int .i64 lw] wb) := MA.out.1
                have NB : Hid (Blk w7.heap.size 44 [.int .i64 hv, .int .i64 lv] wb) := MA.out.2
                clear MA
                cases sd
                · obtain ⟨y1, y2⟩ := Y2.out (by first | rfl | trivial)
                  have YY : Hid (WhIs (debS l (j + 1)) (j + 1) hw lw ∧ WhIs (creS l (j + 1)) (j + 1) hv2 lv2) := ⟨y1, y2⟩
                  clear Y1 Y2 y1 y2
                  go_wp2_with (first
        | (refine step_load rfl 44 _ rfl w7.heap.size 0 rfl [.int .i64 hv, .int .i64 lv] _ NB.out.all Tryd.underlying44 rfl infoH ?_))
                  refine (P2.out _).mono ?_
                  rintro e wd ⟨rfl, bd⟩
                  have K9 : Hid (Kept w _ wd) := KP.out.call bd
                  have A9 : Hid (Blk w6.heap.size 44 [.int .i64 hw, .int .i64 lw] wd) := NA.out.below bd
                  have B9 : Hid (Blk w7.heap.size 44 [.int .i64 hv, .int .i64 lv] wd) := NB.out.below bd
                  clear bd KP NA NB
                  go_wp2_with (refine step_store rfl 44 _ _ rfl w7.heap.size 0 44 [.int .i64 hv, .int .i64 lv] [.int .i64 hv2, .int .i64 lv2] rfl rfl B9.out (Nat.le_refl _) infoH (oneH _ _) ?_; intro we nbe ge)
                  go_roundw
                  case rel => exact ⟨j + 1, hw, lw, hv2, lv2, by go_num, by omega, YY.out.1, YY.out.2, A9.out.grown ge (by have := LT.out; simp; omega), nbe, K9.out.grown ge (fun g' e => by cases e; exact ⟨LT.out.2.2.1, LT.out.2.2.2⟩)⟩
                  case measure => simp [intOf]; omega
                · obtain ⟨y1, y2⟩ := Y1.out (by first | rfl | trivial)
                  have YY : Hid (WhIs (debS l (j + 1)) (j + 1) hw2 lw2 ∧ WhIs (creS l (j + 1)) (j + 1) hv lv) := ⟨y1, y2⟩
                  clear Y1 Y2 y1 y2
                  go_wp2_with (first
        | (refine step_load rfl 44 _ rfl w6.heap.size 0 rfl [.int .i64 hw, .int .i64 lw] _ NA.out.all Tryd.underlying44 rfl infoH ?_))
                  refine (P1.out _).mono ?_
                  rintro e wd ⟨rfl, bd⟩
                  have K9 : Hid (Kept w _ wd) := KP.out.call bd
                  have A9 : Hid (Blk w6.heap.size 44 [.int .i64 hw, .int .i64 lw] wd) := NA.out.below bd
                  have B9 : Hid (Blk w7.heap.size 44 [.int .i64 hv, .int .i64 lv] wd) := NB.out.below bd
                  clear bd KP NA NB
                  go_wp2_with (refine step_store rfl 44 _ _ rfl w6.heap.size 0 44 [.int .i64 hw, .int .i64 lw] [.int .i64 hw2, .int .i64 lw2] rfl rfl A9.out (Nat.le_refl _) infoH (oneH _ _) ?_; intro we nbe ge)
                  go_roundw
                  case rel => exact ⟨j + 1, hw2, lw2, hv, lv, by go_num, by omega, YY.out.1, YY.out.2, nbe, B9.out.grown ge (by have := LT.out; simp; omega), K9.out.grown ge (fun g' e => by cases e; exact ⟨LT.out.2.1, s6.out⟩)⟩
                  case measure => simp [intOf]; omega
              · obtain rfl : j = 12 := by omega
                have bt : i64 (-td) := by have := TDC.out; unfold i64; omega
                have bc : i64 (-tc) := by have := TDC.out; unfold i64; omega
                have WF : WhIs (0 : Int) 13 (whH hw (-td)) (whL lw (-td)) := by
                  have := wh_plus WI.out bt
                  rwa [FIN.out.1, show td + -td = 0 from by omega] at this
                have VF : WhIs (0 : Int) 13 (whH hv (-tc)) (whL lv (-tc)) := by
                  have := wh_plus VI.out bc
                  rwa [FIN.out.2, show tc + -tc = 0 from by omega] at this
                have P1 : Hid (∀ w' : World, Calls Tryd.prog 18 #[.agg #[.int .i64 hw, .int .i64 lw], .int .i64 (-td)] w' fun e w2 => e = .returned (.agg #[.int .i64 (whH hw (-td)), .int .i64 (whL lw (-td))]) ∧ Below w'.heap.size w' w2) := fun w' => PL.out _ _ _ _ _ w' WI.out (by omega) bt
                have P2 : Hid (∀ w' : World, Calls Tryd.prog 18 #[.agg #[.int .i64 hv, .int .i64 lv], .int .i64 (-tc)] w' fun e w2 => e = .returned (.agg #[.int .i64 (whH hv (-tc)), .int .i64 (whL lv (-tc))]) ∧ Below w'.heap.size w' w2) := fun w' => PL.out _ _ _ _ _ w' VI.out (by omega) bc
                have Q1 : Hid (∀ w' : World, Calls Tryd.prog 19 #[.agg #[.int .i64 (whH hw (-td)), .int .i64 (whL lw (-td))]] w' fun e w2 => e = .returned (.bool true) ∧ Below w'.heap.size w' w2) := fun w' => by have := NO.out _ _ _ _ w' WF (by omega); rwa [decide_eq_true rfl] at this
                have Q2 : Hid (∀ w' : World, Calls Tryd.prog 19 #[.agg #[.int .i64 (whH hv (-tc)), .int .i64 (whL lv (-tc))]] w' fun e w2 => e = .returned (.bool true) ∧ Below w'.heap.size w' w2) := fun w' => by have := NO.out _ _ _ _ w' VF (by omega); rwa [decide_eq_true rfl] at this
                have NA : Hid (Blk w6.heap.size 44 [.int .i64 hw, .int .i64 lw] wr) := mw
                have NB : Hid (Blk w7.heap.size 44 [.int .i64 hv, .int .i64 lv] wr) := mv
                generalize whH hw (-td) = hw2 at *
                generalize whL lw (-td) = lw2 at *
                generalize whH hv (-tc) = hv2 at *
                generalize whL lv (-tc) = lv2 at *
                clear mw mv kw WI VI BAL DEB PL NO BJ WF VF bt bc FIN TDC
                go_wp2_with (first
        | (refine step_load rfl 44 _ rfl w6.heap.size 0 rfl [.int .i64 hw, .int .i64 lw] _ NA.out.all Tryd.underlying44 rfl infoH ?_))
                refine (P1.out _).mono ?_
                rintro e wa ⟨rfl, ba⟩
                have K2 : Hid (Kept w _ wa) := KP.out.call ba
                have NB2 : Hid (Blk w7.heap.size 44 [.int .i64 hv, .int .i64 lv] wa) := NB.out.below ba
                clear KP NB NA ba
                go_wp2_with fail
                refine (Q1.out _).mono ?_
                rintro e wb ⟨rfl, bb⟩
                have K3 : Hid (Kept w _ wb) := K2.out.call bb
                have NB3 : Hid (Blk w7.heap.size 44 [.int .i64 hv, .int .i64 lv] wb) := NB2.out.below bb
                clear K2 NB2 bb
                go_wp2_with (first
        | (refine step_loadG rfl 44 _ rfl w7.heap.size 0 rfl [.int .i64 hv, .int .i64 lv] _ NB3.out.all Tryd.underlying44 rfl infoH ?_))
                refine (P2.out _).mono ?_
                rintro e wd ⟨rfl, bd⟩
                have K4 : Hid (Kept w _ wd) := K3.out.call bd
                clear K3 NB3 bd
                go_wp2_with fail
                refine (Q2.out _).mono ?_
                rintro e we ⟨rfl, be⟩
                have KP : Hid (Kept w [(w2.heap.size, postB l []), (w.heap.size, l)] we) := K4.out.call be
                clear K4 be
                go_wp2_with fail
                refine (PS.out _ KP.out.bb).mono ?_
                rintro e wp ⟨rfl, bwp⟩
                have KP' : Kept _ _ wp := KP.out.call bwp
                clear KP bwp
                have KP : Hid (Kept _ _ wp) := KP'
                clear KP'
                go_wp2_with fail
                go_ret
                exact ⟨rfl, KP.out.bb⟩
  · rw [hd] at D1
    obtain ⟨v1, v2⟩ := bal_d (l := l) hk hd
    rw [v1, v2] at B1
    have B1' : Hid (∀ w', Below w.heap.size w w' → Calls Tryd.prog 14 #[.agg (bkL l).toArray, .int .i64 (k : Int)] w' fun e w2 => e = .returned (.tuple #[.int .i64 (l.getD k 0), .int .i64 0]) ∧ Below w'.heap.size w' w2) := B1
    have D1' : Hid (∀ w', Below w.heap.size w w' → Calls Tryd.prog 15 #[.int .i64 (k : Int)] w' fun e w2 => e = .returned (.bool true) ∧ w2 = w') := D1
    generalize l.getD k 0 = x at *
    have f3 : (x != x) = false := by simp
    clear v1 v2 B1 D1 hd hk HX
    go_enter Tryd.func5, Tryd.ntmps5
    go_wp2_with (first
      | (refine step_get KP.out 0 rfl rfl _ rfl rfl ?_))
    refine (B1'.out _ KP.out.bb).mono ?_
    rintro e w1 ⟨rfl, bw1⟩
    have KP' : Kept _ _ w1 := KP.out.call bw1
    clear KP bw1
    have KP : Hid (Kept _ _ w1) := KP'
    clear KP'
    have c0 := CX.out _ KP.out
    go_wp2_with fail
    refine (D1'.out _ KP.out.bb).mono ?_
    rintro e w9 ⟨rfl, rfl⟩
    go_wp2_with (first
      | (refine step_get KP.out 0 rfl rfl _ rfl rfl ?_))
    refine (P0.out _ KP.out.bb).mono ?_
    rintro e w2 ⟨rfl, bw2⟩
    have KP' : Kept _ _ w2 := KP.out.call bw2
    clear KP bw2
    have KP : Hid (Kept _ _ w2) := KP'
    clear KP'
    go_wp2_with (first
      | (refine step_put KP.out (postB l []) L0.out rfl _ _ rfl rfl rfl ?_; clear KP; intro w3 KP'; intro _; have KP : Hid (Kept _ _ _) := KP'; clear KP')
      | (refine step_get KP.out 1 rfl rfl _ rfl rfl ?_))
    refine (OS.out _ KP.out.bb).mono ?_
    rintro e w4 ⟨rfl, bw4⟩
    have KP' : Kept _ _ w4 := KP.out.call bw4
    clear KP bw4
    have KP : Hid (Kept _ _ w4) := KP'
    clear KP'
    cases hs : sidesB l
    · rw [hs] at PN
      have PN' : Hid ((E0 == 0) = false) := PN.out
      have ez : (E0 == 0) = false := PN.out
      have en : (E0 != 0) = true := by unfold bne; rw [ez]; rfl
      clear PN PN'
      go_wp2_with (first
      | (refine step_get KP.out 1 rfl rfl _ rfl rfl ?_))
      refine (TR.out _).mono ?_
      rintro e w5 ⟨rfl, bw5⟩
      have KP' : Kept _ _ w5 := KP.out.call bw5
      clear KP bw5
      have KP : Hid (Kept _ _ w5) := KP'
      clear KP'
      go_wp2_with fail
      refine (PS.out _ KP.out.bb).mono ?_
      rintro e wp ⟨rfl, bwp⟩
      have KP' : Kept _ _ wp := KP.out.call bwp
      clear KP bwp
      have KP : Hid (Kept _ _ wp) := KP'
      clear KP'
      go_wp2_with fail
      go_ret
      exact ⟨rfl, KP.out.bb⟩
    · rw [hs] at PN
      go_wp2_with (first
      | (refine step_getG KP.out 1 rfl rfl _ rfl rfl ?_))
      refine (NL.out _).mono ?_
      rintro e w5 ⟨rfl, bw5⟩
      have KP' : Kept _ _ w5 := KP.out.call bw5
      clear KP bw5
      have KP : Hid (Kept _ _ w5) := KP'
      clear KP'
      cases hr : rangeB l
      · rw [hr] at PN
        have ez : (E0 == 0) = false := PN.out
        have en : (E0 != 0) = true := by unfold bne; rw [ez]; rfl
        clear PN
        go_wp2_with (first
      | (refine step_get KP.out 1 rfl rfl _ rfl rfl ?_))
        refine (TR.out _).mono ?_
        rintro e w6 ⟨rfl, bw6⟩
        have KP' : Kept _ _ w6 := KP.out.call bw6
        clear KP bw6
        have KP : Hid (Kept _ _ w6) := KP'
        clear KP'
        go_wp2_with fail
        refine (PS.out _ KP.out.bb).mono ?_
        rintro e wp ⟨rfl, bwp⟩
        have KP' : Kept _ _ wp := KP.out.call bwp
        clear KP bwp
        have KP : Hid (Kept _ _ wp) := KP'
        clear KP'
        go_wp2_with fail
        go_ret
        exact ⟨rfl, KP.out.bb⟩
      · rw [hr] at PN
        have ez : (E0 == 0) = true := PN.out
        have en : (E0 != 0) = false := by unfold bne; rw [ez]; rfl
        clear PN
        go_wp2_with (first
      | (refine step_get KP.out 1 rfl rfl _ rfl rfl ?_))
        refine (TR.out _).mono ?_
        rintro e w6 ⟨rfl, bw6⟩
        have KP' : Kept _ _ w6 := KP.out.call bw6
        clear KP bw6
        have KP : Hid (Kept _ _ w6) := KP'
        clear KP'
        cases tk
        · go_wp2_with fail
          refine (PS.out _ KP.out.bb).mono ?_
          rintro e wp ⟨rfl, bwp⟩
          have KP' : Kept _ _ wp := KP.out.call bwp
          clear KP bwp
          have KP : Hid (Kept _ _ wp) := KP'
          clear KP'
          go_wp2_with fail
          go_ret
          exact ⟨rfl, KP.out.bb⟩
        · have TDC : Hid (td = trD l ∧ tc = trC l ∧ 0 ≤ td ∧ td ≤ 9223372036854775807 ∧ 0 ≤ tc ∧ tc ≤ 9223372036854775807) := by
            have k1 := XK.out
            have d1 := XD.out
            have c1 := XC.out
            rw [k1, if_pos rfl] at d1 c1
            unfold trOk at k1
            simp only [Bool.and_eq_true] at k1
            have m1 : -9223372036854775808 ≤ trD l ∧ trD l ≤ 9223372036854775807 := of_decide_eq_true k1.1
            have m2 : -9223372036854775808 ≤ trC l ∧ trC l ≤ 9223372036854775807 := of_decide_eq_true k1.2
            have := trD_pos l
            have := trC_pos l
            show _ ∧ _
            omega
          have BJ : Hid (∀ j : Nat, j < 12 → balE l (j : Int) = 0 ∧ i64 (balV l (j : Int))) := fun j hj => by
            have hb := HL.out.2 j
            cases hdj : isD (j : Int)
            · have r := range_at hr hj
              obtain ⟨q1, q2⟩ := bal_c hj hdj r
              rw [q1]
              unfold i64 at *
              exact ⟨q2, by omega⟩
            · obtain ⟨q1, q2⟩ := bal_d (l := l) hj hdj
              rw [q1]; exact ⟨q2, hb⟩
          have FIN : Hid (debS l 12 = td ∧ creS l 12 = tc) := ⟨(deb_all HL.out.1 hs).trans TDC.out.1.symm, (cre_all HL.out.1 hs hr).trans TDC.out.2.1.symm⟩
          have z0 : decide (td < 0) = false := decide_eq_false (by have := TDC.out; omega)
          have z1 : decide (tc < 0) = false := decide_eq_false (by have := TDC.out; omega)
          have n0 : wrap64 (-td) = -td := by have := TDC.out; unfold wrap64; omega
          have n1 : wrap64 (-tc) = -tc := by have := TDC.out; unfold wrap64; omega
          have N1 : Hid (Blk w6.heap.size 44 [.int .i64 0, .int .i64 0] (w6.alloc (.cells #[.int .i64 0, .int .i64 0] 44))) := Blk.new 44 [.int .i64 0, .int .i64 0] w6
          clear XD XC XK hs hr OS NL TR
          have s6 : Hid (∀ p ∈ [(w2.heap.size, postB l []), (w.heap.size, l)], p.1 < w6.heap.size) := KP.out.lt
          go_wp2_with (first
            | (refine step_store rfl 44 _ _ rfl w6.heap.size 0 44 [.int .i64 0, .int .i64 0] [.int .i64 0, .int .i64 0] rfl rfl N1.out (Nat.le_refl _) infoH (oneH _ _) ?_; intro w7 nb7 g7; have K7 : Hid (Kept w [(w2.heap.size, postB l []), (w.heap.size, l)] w7) := (KP.out.alloc _).grown g7 (fun g' e => by cases e; exact ⟨KP.out.bb.size, s6.out⟩); have M7 : Hid (Blk w6.heap.size 44 [.int .i64 0, .int .i64 0] w7) := nb7; clear nb7 g7)
            | (refine step_store rfl 44 _ _ rfl w7.heap.size 0 44 [.int .i64 0, .int .i64 0] [.int .i64 0, .int .i64 0] rfl rfl (Blk.new 44 [.int .i64 0, .int .i64 0] w7) (Nat.le_refl _) infoH (oneH _ _) ?_; intro w8 nb8 g8; have K8 : Hid (Kept w [(w2.heap.size, postB l []), (w.heap.size, l)] w8) := (K7.out.alloc _).grown g8 (fun g' e => by cases e; exact ⟨K7.out.bb.size, K7.out.lt⟩); have M8 : Hid (Blk w6.heap.size 44 [.int .i64 0, .int .i64 0] w8) := (M7.out.old _).grown g8 (by have := M7.out.lt; simp; omega); have V8 : Hid (Blk w7.heap.size 44 [.int .i64 0, .int .i64 0] w8) := nb8; have LT : Hid (w6.heap.size < w7.heap.size ∧ w.heap.size ≤ w6.heap.size ∧ w.heap.size ≤ w7.heap.size ∧ (∀ p ∈ [(w2.heap.size, postB l []), (w.heap.size, l)], p.1 < w7.heap.size)) := ⟨M7.out.lt, KP.out.bb.size, K7.out.bb.size, K7.out.lt⟩; clear nb8 g8 N1 K7 M7))
          clear KP
          go_loopw [16, 17, 18] (fun vj _ _ wx => ∃ (j : Nat) (hw lw hv lv : Int), vj = .int .i64 (j : Int) ∧ j ≤ 12 ∧ Hid (WhIs (debS l j) j hw lw) ∧ Hid (WhIs (creS l j) j hv lv) ∧ Blk w6.heap.size 44 [.int .i64 hw, .int .i64 lw] wx ∧ Blk w7.heap.size 44 [.int .i64 hv, .int .i64 lv] wx ∧ Kept w [(w2.heap.size, postB l []), (w.heap.size, l)] wx) (fun vj _ _ _ => 12 - (intOf vj).toNat)
          case atStart => exact ⟨0, 0, 0, 0, 0, rfl, by omega, (show WhIs (debS l 0) 0 0 0 from wh_zero), (show WhIs (creS l 0) 0 0 0 from wh_zero), M8.out, V8.out, K8.out⟩
          case round =>
            clear M8 V8 K8
            obtain ⟨j, hw, lw, hv, lv, rfl, hj, WI, VI, mw, mv, kw⟩ := hrel
            have KP : Hid (Kept w [(w2.heap.size, postB l []), (w.heap.size, l)] wr) := kw
            by_cases hjl : (j : Int) < 12
            · obtain ⟨be, bi⟩ := BJ.out j (by omega)
              have B2 : Hid (∀ w', Below w.heap.size w w' → Calls Tryd.prog 14 #[.agg (bkL l).toArray, .int .i64 (j : Int)] w' fun e w2 => e = .returned (.tuple #[.int .i64 (balV l (j : Int)), .int .i64 0]) ∧ Below w'.heap.size w' w2) := fun w' hb => by have := BAL.out (j : Int) w' hb; rwa [be] at this
              have D2 : Hid (∀ w', Below w.heap.size w w' → Calls Tryd.prog 15 #[.int .i64 (j : Int)] w' fun e w2 => e = .returned (.bool (isD (j : Int))) ∧ w2 = w') := DEB.out _
              have P1 : Hid (∀ w' : World, Calls Tryd.prog 18 #[.agg #[.int .i64 hw, .int .i64 lw], .int .i64 (balV l (j : Int))] w' fun e w2 => e = .returned (.agg #[.int .i64 (whH hw (balV l (j : Int))), .int .i64 (whL lw (balV l (j : Int)))]) ∧ Below w'.heap.size w' w2) := fun w' => PL.out _ _ _ _ _ w' WI.out (by omega) bi
              have P2 : Hid (∀ w' : World, Calls Tryd.prog 18 #[.agg #[.int .i64 hv, .int .i64 lv], .int .i64 (balV l (j : Int))] w' fun e w2 => e = .returned (.agg #[.int .i64 (whH hv (balV l (j : Int))), .int .i64 (whL lv (balV l (j : Int)))]) ∧ Below w'.heap.size w' w2) := fun w' => PL.out _ _ _ _ _ w' VI.out (by omega) bi
              have Y1 : Hid (isD (j : Int) = true → WhIs (debS l (j + 1)) (j + 1) (whH hw (balV l (j : Int))) (whL lw (balV l (j : Int))) ∧ WhIs (creS l (j + 1)) (j + 1) hv lv) := fun h => by
                rw [debS_succ, creS_succ, h, if_pos rfl, if_pos rfl, Int.add_zero]
                exact ⟨wh_plus WI.out bi, wh_mono VI.out⟩
              have Y2 : Hid (isD (j : Int) = false → WhIs (debS l (j + 1)) (j + 1) hw lw ∧ WhIs (creS l (j + 1)) (j + 1) (whH hv (balV l (j : Int))) (whL lv (balV l (j : Int)))) := fun h => by
                rw [debS_succ, creS_succ, h]
                simp only [Bool.false_eq_true, if_false, Int.add_zero]
                exact ⟨wh_mono WI.out, wh_plus VI.out bi⟩
              have MW : Hid (Blk w6.heap.size 44 [.int .i64 hw, .int .i64 lw] wr ∧ Blk w7.heap.size 44 [.int .i64 hv, .int .i64 lv] wr) := ⟨mw, mv⟩
              generalize whH hw (balV l (j : Int)) = hw2 at *
              generalize whL lw (balV l (j : Int)) = lw2 at *
              generalize whH hv (balV l (j : Int)) = hv2 at *
              generalize whL lv (balV l (j : Int)) = lv2 at *
              generalize balV l (j : Int) = bx at *
              generalize isD (j : Int) = sd at *
              clear be bi mw mv kw WI VI BAL DEB PL NO BJ PS
              go_wp2_with (first
      | (refine step_get KP.out 1 rfl rfl _ rfl rfl ?_))
              refine (B2.out _ KP.out.bb).mono ?_
              rintro e wa ⟨rfl, ba⟩
              have KP' : Kept w _ wa := KP.out.call ba
              have MA : Hid (Blk w6.heap.size 44 [.int .i64 hw, .int .i64 lw] wa ∧ Blk w7.heap.size 44 [.int .i64 hv, .int .i64 lv] wa) := ⟨MW.out.1.below ba, MW.out.2.below ba⟩
              clear KP MW ba
              have KP : Hid (Kept w [(w2.heap.size, postB l []), (w.heap.size, l)] wa) := KP'
              clear KP'
              go_wp2_with fail
              refine (D2.out _ KP.out.bb).mono ?_
              rintro e wb ⟨rfl, rfl⟩
              have NA : Hid (Blk w6.heap.size 44 [.int .i64 hw, .int .i64 lw] wb) := MA.out.1
              have NB : Hid (Blk w7.heap.size 44 [.int .i64 hv, .int .i64 lv] wb) := MA.out.2
              clear MA
              cases sd
              · obtain ⟨y1, y2⟩ := Y2.out (by first | rfl | trivial)
                have YY : Hid (WhIs (debS l (j + 1)) (j + 1) hw lw ∧ WhIs (creS l (j + 1)) (j + 1) hv2 lv2) := ⟨y1, y2⟩
                clear Y1 Y2 y1 y2
                go_wp2_with (first
      | (refine step_load rfl 44 _ rfl w7.heap.size 0 rfl [.int .i64 hv, .int .i64 lv] _ NB.out.all Tryd.underlying44 rfl infoH ?_))
                refine (P2.out _).mono ?_
                rintro e wd ⟨rfl, bd⟩
                have K9 : Hid (Kept w _ wd) := KP.out.call bd
                have A9 : Hid (Blk w6.heap.size 44 [.int .i64 hw, .int .i64 lw] wd) := NA.out.below bd
                have B9 : Hid (Blk w7.heap.size 44 [.int .i64 hv, .int .i64 lv] wd) := NB.out.below bd
                clear bd KP NA NB
                go_wp2_with (refine step_store rfl 44 _ _ rfl w7.heap.size 0 44 [.int .i64 hv, .int .i64 lv] [.int .i64 hv2, .int .i64 lv2] rfl rfl B9.out (Nat.le_refl _) infoH (oneH _ _) ?_; intro we nbe ge)
                go_roundw
                case rel => exact ⟨j + 1, hw, lw, hv2, lv2, by go_num, by omega, YY.out.1, YY.out.2, A9.out.grown ge (by have := LT.out; simp; omega), nbe, K9.out.grown ge (fun g' e => by cases e; exact ⟨LT.out.2.2.1, LT.out.2.2.2⟩)⟩
                case measure => simp [intOf]; omega
              · obtain ⟨y1, y2⟩ := Y1.out (by first | rfl | trivial)
                have YY : Hid (WhIs (debS l (j + 1)) (j + 1) hw2 lw2 ∧ WhIs (creS l (j + 1)) (j + 1) hv lv) := ⟨y1, y2⟩
                clear Y1 Y2 y1 y2
                go_wp2_with (first
      | (refine step_load rfl 44 _ rfl w6.heap.size 0 rfl [.int .i64 hw, .int .i64 lw] _ NA.out.all Tryd.underlying44 rfl infoH ?_))
                refine (P1.out _).mono ?_
                rintro e wd ⟨rfl, bd⟩
                have K9 : Hid (Kept w _ wd) := KP.out.call bd
                have A9 : Hid (Blk w6.heap.size 44 [.int .i64 hw, .int .i64 lw] wd) := NA.out.below bd
                have B9 : Hid (Blk w7.heap.size 44 [.int .i64 hv, .int .i64 lv] wd) := NB.out.below bd
                clear bd KP NA NB
                go_wp2_with (refine step_store rfl 44 _ _ rfl w6.heap.size 0 44 [.int .i64 hw, .int .i64 lw] [.int .i64 hw2, .int .i64 lw2] rfl rfl A9.out (Nat.le_refl _) infoH (oneH _ _) ?_; intro we nbe ge)
                go_roundw
                case rel => exact ⟨j + 1, hw2, lw2, hv, lv, by go_num, by omega, YY.out.1, YY.out.2, nbe, B9.out.grown ge (by have := LT.out; simp; omega), K9.out.grown ge (fun g' e => by cases e; exact ⟨LT.out.2.1, s6.out⟩)⟩
                case measure => simp [intOf]; omega
            · obtain rfl : j = 12 := by omega
              have bt : i64 (-td) := by have := TDC.out; unfold i64; omega
              have bc : i64 (-tc) := by have := TDC.out; unfold i64; omega
              have WF : WhIs (0 : Int) 13 (whH hw (-td)) (whL lw (-td)) := by
                have := wh_plus WI.out bt
                rwa [FIN.out.1, show td + -td = 0 from by omega] at this
              have VF : WhIs (0 : Int) 13 (whH hv (-tc)) (whL lv (-tc)) := by
                have := wh_plus VI.out bc
                rwa [FIN.out.2, show tc + -tc = 0 from by omega] at this
              have P1 : Hid (∀ w' : World, Calls Tryd.prog 18 #[.agg #[.int .i64 hw, .int .i64 lw], .int .i64 (-td)] w' fun e w2 => e = .returned (.agg #[.int .i64 (whH hw (-td)), .int .i64 (whL lw (-td))]) ∧ Below w'.heap.size w' w2) := fun w' => PL.out _ _ _ _ _ w' WI.out (by omega) bt
              have P2 : Hid (∀ w' : World, Calls Tryd.prog 18 #[.agg #[.int .i64 hv, .int .i64 lv], .int .i64 (-tc)] w' fun e w2 => e = .returned (.agg #[.int .i64 (whH hv (-tc)), .int .i64 (whL lv (-tc))]) ∧ Below w'.heap.size w' w2) := fun w' => PL.out _ _ _ _ _ w' VI.out (by omega) bc
              have Q1 : Hid (∀ w' : World, Calls Tryd.prog 19 #[.agg #[.int .i64 (whH hw (-td)), .int .i64 (whL lw (-td))]] w' fun e w2 => e = .returned (.bool true) ∧ Below w'.heap.size w' w2) := fun w' => by have := NO.out _ _ _ _ w' WF (by omega); rwa [decide_eq_true rfl] at this
              have Q2 : Hid (∀ w' : World, Calls Tryd.prog 19 #[.agg #[.int .i64 (whH hv (-tc)), .int .i64 (whL lv (-tc))]] w' fun e w2 => e = .returned (.bool true) ∧ Below w'.heap.size w' w2) := fun w' => by have := NO.out _ _ _ _ w' VF (by omega); rwa [decide_eq_true rfl] at this
              have NA : Hid (Blk w6.heap.size 44 [.int .i64 hw, .int .i64 lw] wr) := mw
              have NB : Hid (Blk w7.heap.size 44 [.int .i64 hv, .int .i64 lv] wr) := mv
              generalize whH hw (-td) = hw2 at *
              generalize whL lw (-td) = lw2 at *
              generalize whH hv (-tc) = hv2 at *
              generalize whL lv (-tc) = lv2 at *
              clear mw mv kw WI VI BAL DEB PL NO BJ WF VF bt bc FIN TDC
              go_wp2_with (first
      | (refine step_load rfl 44 _ rfl w6.heap.size 0 rfl [.int .i64 hw, .int .i64 lw] _ NA.out.all Tryd.underlying44 rfl infoH ?_))
              refine (P1.out _).mono ?_
              rintro e wa ⟨rfl, ba⟩
              have K2 : Hid (Kept w _ wa) := KP.out.call ba
              have NB2 : Hid (Blk w7.heap.size 44 [.int .i64 hv, .int .i64 lv] wa) := NB.out.below ba
              clear KP NB NA ba
              go_wp2_with fail
              refine (Q1.out _).mono ?_
              rintro e wb ⟨rfl, bb⟩
              have K3 : Hid (Kept w _ wb) := K2.out.call bb
              have NB3 : Hid (Blk w7.heap.size 44 [.int .i64 hv, .int .i64 lv] wb) := NB2.out.below bb
              clear K2 NB2 bb
              go_wp2_with (first
      | (refine step_loadG rfl 44 _ rfl w7.heap.size 0 rfl [.int .i64 hv, .int .i64 lv] _ NB3.out.all Tryd.underlying44 rfl infoH ?_))
              refine (P2.out _).mono ?_
              rintro e wd ⟨rfl, bd⟩
              have K4 : Hid (Kept w _ wd) := K3.out.call bd
              clear K3 NB3 bd
              go_wp2_with fail
              refine (Q2.out _).mono ?_
              rintro e we ⟨rfl, be⟩
              have KP : Hid (Kept w [(w2.heap.size, postB l []), (w.heap.size, l)] we) := K4.out.call be
              clear K4 be
              go_wp2_with fail
              refine (PS.out _ KP.out.bb).mono ?_
              rintro e wp ⟨rfl, bwp⟩
              have KP' : Kept _ _ wp := KP.out.call bwp
              clear KP bwp
              have KP : Hid (Kept _ _ wp) := KP'
              clear KP'
              go_wp2_with fail
              go_ret
              exact ⟨rfl, KP.out.bb⟩
end Go.Proofs.YtkmmpffkmoaceabDoor
