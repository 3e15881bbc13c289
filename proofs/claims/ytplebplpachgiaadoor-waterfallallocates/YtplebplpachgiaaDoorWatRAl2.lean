/-
  Ours: the document's Allocate.
-/
import Derived.Test.YtplebplpachgiaaDoorWatRAl
namespace Go.Proofs.YtplebplpachgiaaDoor
open Go.RowKit LedM WatM

theorem KB.three (w : World) (T T' T'' : TypeId) (cs ds es : List Value) : KB w [(w.heap.size + 2, T'', es), (w.heap.size + 1, T', ds), (w.heap.size, T, cs)] (((w.alloc (.cells cs.toArray T)).alloc (.cells ds.toArray T')).alloc (.cells es.toArray T'')) := by
  have := (((KB.start w).new T cs).new T' ds).new T'' es
  rwa [show ((w.alloc (.cells cs.toArray T)).alloc (.cells ds.toArray T')).heap.size = w.heap.size + 2 from by simp, show (w.alloc (.cells cs.toArray T)).heap.size = w.heap.size + 1 from by simp] at this

set_option maxRecDepth 20000 in
set_option maxHeartbeats 4000000 in
theorem ralloc_at (o f i p a : Int) (w : World) (hf : i64 f) (hi : i64 i) (hp : i64 p) (ha : i64 a) :
    Calls Tryd.prog 12 #[.int .i64 o, .agg (bkL [f, i, p]).toArray, .int .i64 a] w fun e w' => e = .returned (.tuple #[.agg (bkL (alP o f i p a)).toArray, .int .i64 (alE o f i p a)]) ∧ Below w.heap.size w w' := by
  have K0 : Hid (KB w [(w.heap.size + 2, 29, bkL z5), (w.heap.size + 1, 29, bkL z5), (w.heap.size, 23, bkL [f, i, p])] (((w.alloc (.cells (bkL [f, i, p]).toArray 23)).alloc z5o).alloc z5o)) := KB.three w _ _ _ _ (bkL z5) (bkL z5)
  have c0 := (K0.out.at 2 rfl).cell 0 _ rfl
  have c1 := (K0.out.at 2 rfl).cell 1 _ rfl
  have c2 := (K0.out.at 2 rfl).cell 2 _ rfl
  unfold i64 at hf hi hp ha
  by_cases hbad : ¬(0 ≤ o ∧ o < 6) ∨ f < 0 ∨ i < 0 ∨ p < 0
  · obtain ⟨E1, E2⟩ := alE_two (a := a) hbad
    have EE : Hid (alE o f i p a = 2 ∧ alP o f i p a = z5) := ⟨E1, E2⟩
    have WAY : Hid ((¬(0 ≤ o ∧ o < 6)) ∨ ((0 ≤ o ∧ o < 6) ∧ (f < 0 ∨ 0 ≤ f ∧ (i < 0 ∨ 0 ≤ i ∧ p < 0)))) := by show _ ∨ _; omega
    have TU : Hid (∃ t : Int, (∀ w', Calls Tryd.prog 13 #[.int .i64 o, .int .i64 0] w' fun e w2 => e = .returned (.int .i64 t) ∧ w2 = w') ∧ ((¬(0 ≤ o ∧ o < 6) ∧ t < 0) ∨ ((0 ≤ o ∧ o < 6) ∧ 0 ≤ t))) := by
      by_cases h : 0 ≤ o ∧ o < 6
      · obtain ⟨n, rfl⟩ : ∃ n : Nat, o = (n : Int) := ⟨o.toNat, by omega⟩
        exact ⟨(kd n 0 : Int), fun w' => turn_in n 0 w' (by omega) (by omega), .inr ⟨h, by omega⟩⟩
      · exact ⟨-1, fun w' => turn_out o w' h, .inl ⟨h, by decide⟩⟩
    obtain ⟨t, tu, tw⟩ := TU.out
    have TT : Hid (∀ w', Calls Tryd.prog 13 #[.int .i64 o, .int .i64 0] w' fun e w2 => e = .returned (.int .i64 t) ∧ w2 = w') := tu
    have W2 : Hid (t < 0 ∨ (0 ≤ t ∧ (f < 0 ∨ 0 ≤ f ∧ (i < 0 ∨ 0 ≤ i ∧ p < 0)))) := by
      have := WAY.out
      show _ ∨ _
      omega
    clear E1 E2 hbad WAY TU tu tw
    generalize bkL [f, i, p] = cs at *
    go_enter Tryd.func12, Tryd.ntmps12
    go_wp2_with fail
    refine (TT.out _).mono ?_
    rintro e w1 ⟨rfl, rfl⟩
    clear TT
    rcases W2.out with h | ⟨h0, h | ⟨h, h' | ⟨h', h''⟩⟩⟩
    all_goals
      go_wp2_with fail
      refine ret_blk_tmp rfl rfl (w.heap.size + 1) 29 (bkL z5) _ rfl (K0.out.at 1 rfl) Tryd.underlying29 rfl infoP ?_
      rw [EE.out.1, EE.out.2]
      exact ⟨rfl, K0.out.bb⟩
  · obtain ⟨n, rfl⟩ : ∃ n : Nat, o = (n : Int) := ⟨o.toNat, by omega⟩
    have hn : n < 6 := by omega
    have hf0 : 0 ≤ f := by omega
    have hi0 : 0 ≤ i := by omega
    have hp0 : 0 ≤ p := by omega
    have TU : Hid (∀ (j : Nat), j < 3 → ∀ w', Calls Tryd.prog 13 #[.int .i64 (n : Int), .int .i64 (j : Int)] w' fun e w2 => e = .returned (.int .i64 (kd n j : Int)) ∧ w2 = w') := fun j hj w' => turn_in n j w' hn hj
    have T0 : Hid (∀ w', Calls Tryd.prog 13 #[.int .i64 (n : Int), .int .i64 0] w' fun e w2 => e = .returned (.int .i64 (kd n 0 : Int)) ∧ w2 = w') := fun w' => TU.out 0 (by omega) w'
    have k0 : (0 : Int) ≤ (kd n 0 : Int) := by omega
    by_cases h4 : a < 1
    · obtain ⟨E1, E2⟩ := alE_four hbad h4
      have EE : Hid (alE (n : Int) f i p a = 4 ∧ alP (n : Int) f i p a = z5) := ⟨E1, E2⟩
      clear E1 E2 hbad TU
      generalize bkL [f, i, p] = cs at *
      go_enter Tryd.func12, Tryd.ntmps12
      go_wp2_with fail
      refine (T0.out _).mono ?_
      rintro e w1 ⟨rfl, rfl⟩
      clear T0
      go_wp2_with fail
      refine ret_blk_tmp rfl rfl (w.heap.size + 1) 29 (bkL z5) _ rfl (K0.out.at 1 rfl) Tryd.underlying29 rfl infoP ?_
      rw [EE.out.1, EE.out.2]
      exact ⟨rfl, K0.out.bb⟩
    · have ha1 : 1 ≤ a := by omega
      obtain ⟨E1, E2⟩ := alE_ok hn hf0 hi0 hp0 ha1
      have EE : Hid (alE (n : Int) f i p a = 0 ∧ alP (n : Int) f i p a = (ouL n f i p a 3).set 3 (lf n f i p a 3)) := ⟨E1, by rw [E2, ouL_end f i p a hn]⟩
      have PT : Hid (∀ (j : Nat), j < 3 → ∀ w', Calls Tryd.prog 14 #[.int .i64 (n : Int), .agg (bkL [f, i, p]).toArray, .int .i64 a, .int .i64 (j : Int)] w' fun e w2 => e = .returned (.int .i64 (pd n f i p a j)) ∧ Below w'.heap.size w' w2) := fun j hj w' => by
        have := part_at n f i p a j w' hn hf0 hi0 hp0 ha1 hf.2 hi.2 hp.2 ha.2 (by omega)
        rwa [show prt n f i p a j = pd n f i p a j from if_neg (by omega)] at this
      have P3 : Hid (∀ w', Calls Tryd.prog 14 #[.int .i64 (n : Int), .agg (bkL [f, i, p]).toArray, .int .i64 a, .int .i64 3] w' fun e w2 => e = .returned (.int .i64 (lf n f i p a 3)) ∧ Below w'.heap.size w' w2) := fun w' => part_at n f i p a 3 w' hn hf0 hi0 hp0 ha1 hf.2 hi.2 hp.2 ha.2 (by omega)
      have KD : Hid (∀ j, j < 3 → kd n j = 1 ∨ kd n j = 2 ∨ kd n j = 3) := fun j hj => kd_all n hn j hj
      clear E1 E2 hbad
      generalize hcs : bkL [f, i, p] = cs at *
      have IC : Hid ((Tryd.prog.info? 23).map (·.size) = some cs.length) := by show _ = _; rw [← hcs]; exact infoO
      clear hcs
      go_enter Tryd.func12, Tryd.ntmps12
      go_wp2_with fail
      refine (T0.out _).mono ?_
      rintro e w1 ⟨rfl, rfl⟩
      clear T0
      go_wp2_with fail
      clear k0 c0 c1 c2
      go_loopw [9, 10] (fun vk _ wr => ∃ j : Nat, vk = .int .i64 (j : Int) ∧ j ≤ 3 ∧ KB w [(w.heap.size + 2, 29, bkL (ouL n f i p a j)), (w.heap.size + 1, 29, bkL z5), (w.heap.size, 23, cs)] wr) (fun vk _ _ => 3 - (intOf vk).toNat)
      case atStart => exact ⟨0, rfl, by omega, K0.out⟩
      case round =>
        clear K0
        obtain ⟨j, rfl, hj, kb⟩ := hrel
        by_cases hlt : (j : Int) < 3
        · have TJ : Hid (∀ w', Calls Tryd.prog 13 #[.int .i64 (n : Int), .int .i64 (j : Int)] w' fun e w2 => e = .returned (.int .i64 (kd n j : Int)) ∧ w2 = w') := TU.out j (by omega)
          have PJ : Hid (∀ w', Calls Tryd.prog 14 #[.int .i64 (n : Int), .agg cs.toArray, .int .i64 a, .int .i64 (j : Int)] w' fun e w2 => e = .returned (.int .i64 (pd n f i p a j)) ∧ Below w'.heap.size w' w2) := PT.out j (by omega)
          have kdj := KD.out j (by omega)
          have E1 : Hid (ouL n f i p a (j + 1) = (ouL n f i p a j).set (ix (kd n j)) (pd n f i p a j)) := rfl
          have LN : Hid ((ouL n f i p a j).length = 5) := ouL_len n f i p a j
          have K1 : Hid (KB w [(w.heap.size + 2, 29, bkL (ouL n f i p a j)), (w.heap.size + 1, 29, bkL z5), (w.heap.size, 23, cs)] wr) := kb
          clear kb TU PT P3 KD EE
          generalize pd n f i p a j = q at *
          generalize kd n j = m at *
          generalize ouL n f i p a j = L at *
          go_wp2_with (refine step_load rfl 23 _ rfl w.heap.size 0 rfl cs _ (K1.out.at 2 rfl).all Tryd.underlying23 rfl IC.out ?_)
          refine (PJ.out _).mono ?_
          rintro e w2 ⟨rfl, b2⟩
          have K2 : Hid (KB w [(w.heap.size + 2, 29, bkL L), (w.heap.size + 1, 29, bkL z5), (w.heap.size, 23, cs)] w2) := K1.out.call b2
          clear PJ K1 b2
          go_wp2_with fail
          refine (TJ.out _).mono ?_
          rintro e w3 ⟨rfl, rfl⟩
          clear TJ
          have d0 := (K2.out.at 0 rfl).cell 0 _ (bkL_at (by have := LN.out; omega))
          have d1 := (K2.out.at 0 rfl).cell 1 _ (bkL_at (by have := LN.out; omega))
          have d2 := (K2.out.at 0 rfl).cell 2 _ (bkL_at (by have := LN.out; omega))
          have z0 := (K2.out.at 0 rfl).fz 0
          have z1 := (K2.out.at 0 rfl).fz 1
          have z2 := (K2.out.at 0 rfl).fz 2
          have NX : Hid (∀ k, KB w [(w.heap.size + 2, 29, bkL (L.set k q)), (w.heap.size + 1, 29, bkL z5), (w.heap.size, 23, cs)] (w3.setCell ⟨w.heap.size + 2, k, none⟩ (.int .i64 q))) := fun k => K2.out.set (by simp) k q
          generalize L.getD 0 0 = o0 at *
          generalize L.getD 1 0 = o1 at *
          generalize L.getD 2 0 = o2 at *
          clear K2 LN
          rcases kdj with rfl | rfl | rfl
          · go_wp2_with fail
            go_roundw
            case rel => exact ⟨j + 1, by go_num, by omega, by rw [E1.out]; exact NX.out 2⟩
            case measure => simp [intOf]; omega
          · go_wp2_with fail
            go_roundw
            case rel => exact ⟨j + 1, by go_num, by omega, by rw [E1.out]; exact NX.out 1⟩
            case measure => simp [intOf]; omega
          · go_wp2_with fail
            go_roundw
            case rel => exact ⟨j + 1, by go_num, by omega, by rw [E1.out]; exact NX.out 0⟩
            case measure => simp [intOf]; omega
        · obtain rfl : j = 3 := by omega
          have LN : Hid ((ouL n f i p a 3).length = 5) := ouL_len n f i p a 3
          have K1 : Hid (KB w [(w.heap.size + 2, 29, bkL (ouL n f i p a 3)), (w.heap.size + 1, 29, bkL z5), (w.heap.size, 23, cs)] wr) := kb
          have EE1 : Hid (alE (n : Int) f i p a = 0) := EE.out.1
          have L5 : ∀ l : List Int, l.length = 5 → ∃ x0 x1 x2 x3 x4, l = [x0, x1, x2, x3, x4] := fun l h => by
            match l, h with
            | [x0, x1, x2, x3, x4], _ => exact ⟨_, _, _, _, _, rfl⟩
          obtain ⟨x0, x1, x2, x3, x4, h5⟩ := L5 _ LN.out
          have EE2 : Hid (alP (n : Int) f i p a = [x0, x1, x2, lf n f i p a 3, x4]) := by show _ = _; rw [EE.out.2, h5]; rfl
          rw [h5] at K1
          clear kb TU PT KD EE LN L5 h5
          go_wp2_with (refine step_load rfl 23 _ rfl w.heap.size 0 rfl cs _ (K1.out.at 2 rfl).all Tryd.underlying23 rfl IC.out ?_)
          refine (P3.out _).mono ?_
          rintro e w2 ⟨rfl, b2⟩
          have K2 : Hid (KB w [(w.heap.size + 2, 29, bkL [x0, x1, x2, x3, x4]), (w.heap.size + 1, 29, bkL z5), (w.heap.size, 23, cs)] w2) := K1.out.call b2
          clear P3 K1 b2
          have d3 := (K2.out.at 0 rfl).cell 3 _ rfl
          have z3 := (K2.out.at 0 rfl).fz 3
          have K3 : Hid (KB w [(w.heap.size + 2, 29, bkL [x0, x1, x2, lf n f i p a 3, x4]), (w.heap.size + 1, 29, bkL z5), (w.heap.size, 23, cs)] (w2.setCell ⟨w.heap.size + 2, 3, none⟩ (.int .i64 (lf n f i p a 3)))) := K2.out.set (by simp) 3 _
          clear K2
          go_wp2_with (first
            | (refine step_load rfl 29 _ rfl (w.heap.size + 2) 0 rfl (bkL [x0, x1, x2, lf n f i p a 3, x4]) _ (K3.out.at 0 rfl).all Tryd.underlying29 rfl infoP ?_)
            | (refine step_store rfl 29 _ _ rfl (w.heap.size + 1) 0 29 (bkL z5) (bkL [x0, x1, x2, lf n f i p a 3, x4]) rfl rfl (K3.out.at 1 rfl) (Nat.le_refl _) infoP (bkL_one _) ?_; intro w9 nb9 g9; have N9 : Hid (Blk (w.heap.size + 1) 29 (bkL [x0, x1, x2, lf n f i p a 3, x4]) w9) := nb9; have B9 : Hid (Below w.heap.size w w9) := below_row K3.out.bb g9 (by omega); clear nb9 g9))
          refine ret_blk_tmp rfl rfl (w.heap.size + 1) 29 (bkL [x0, x1, x2, lf n f i p a 3, x4]) _ rfl N9.out Tryd.underlying29 rfl infoP ?_
          rw [EE1.out, EE2.out]
          exact ⟨rfl, B9.out⟩
end Go.Proofs.YtplebplpachgiaaDoor
