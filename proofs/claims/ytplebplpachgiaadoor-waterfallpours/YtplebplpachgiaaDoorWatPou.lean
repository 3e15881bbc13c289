/-
  Ours: the walk of WaterfallPours.
-/
import Derived.Test.YtplebplpachgiaaDoorWatAl
import Derived.Test.YtplebplpachgiaaDoorWatPay
import Derived.Test.YtplebplpachgiaaDoorWatOf
import Derived.Test.YtplebplpachgiaaDoorWatKB
import Derived.Deep.RegionHeld
namespace Go.Proofs.YtplebplpachgiaaDoor
open Go.RowKit LedM WatM

namespace WatM
theorem kd_six {n : Nat} (hn : n < 6) : (kd n 0 : Int) + (kd n 1 : Int) + (kd n 2 : Int) = 6 ∧ (wrap64 (wrap64 ((kd n 0 : Int) * (kd n 1 : Int)) * (kd n 2 : Int)) != 6) = false := by
  have a : n = 0 ∨ n = 1 ∨ n = 2 ∨ n = 3 ∨ n = 4 ∨ n = 5 := by omega
  rcases a with h | h | h | h | h | h <;> subst h <;> exact ⟨rfl, by decide +kernel⟩
end WatM

set_option maxRecDepth 20000 in
set_option maxHeartbeats 8000000 in
theorem pours_any (o f i p a : Int) (w : World) (ho : i64 o) (hf : i64 f) (hi : i64 i) (hp : i64 p) (ha : i64 a) (hT : TabO w) :
    Calls Tryd.prog 3 #[.int .i64 o, .agg (bkL [f, i, p]).toArray, .int .i64 a] w fun e w' => e = .returned (.bool true) ∧ Below w.heap.size w w' := by
  have PA : Hid (∀ w', Calls Tryd.prog 6 #[.int .i64 o, .agg (bkL [f, i, p]).toArray, .int .i64 a] w' fun e w2 => e = .returned (.bool (payB o f i p a)) ∧ Below w'.heap.size w' w2) := fun w' => payable_at o f i p a w'
  have AL : Hid (∀ w', Below w.heap.size w w' → Calls Tryd.prog 8 #[.int .i64 o, .agg (bkL [f, i, p]).toArray, .int .i64 a] w' fun e w2 => e = .returned (.tuple #[.agg (bkL (alP o f i p a)).toArray, .int .i64 (alE o f i p a)]) ∧ Below w'.heap.size w' w2) := fun w' b => alloc_at o f i p a w' ho hf hi hp ha (hT.later b)
  have OR : Hid (∀ w', Below w.heap.size w w' → Calls Tryd.prog 7 #[.int .i64 o] w' fun e w2 => e = .returned (.tuple #[.agg (bkL (ordL o)).toArray, .bool (ordB o)]) ∧ Below w'.heap.size w' w2) := fun w' hb => order_at o w' ho (hT.later hb)
  have K0 : Hid (KB w [(w.heap.size, 23, bkL [f, i, p])] (w.alloc (.cells (bkL [f, i, p]).toArray 23))) := (KB.start w).new _ _
  unfold i64 at ho hf hi hp ha
  clear hT
  go_enter Tryd.func3, Tryd.ntmps3
  go_wp2_with (refine step_load rfl 23 _ rfl w.heap.size 0 rfl (bkL [f, i, p]) _ (K0.out.at 0 rfl).all Tryd.underlying23 rfl infoO ?_)
  refine (PA.out _).mono ?_
  rintro e w1 ⟨rfl, b1⟩
  have K1 : Hid (KB w [(w.heap.size, 23, bkL [f, i, p])] w1) := K0.out.call b1
  clear PA K0 b1
  by_cases hB : payB o f i p a = true
  case neg =>
    have hB : payB o f i p a = false := by simpa using hB
    rw [hB]
    clear hB
    go_wp2_with fail
    go_ret
    exact ⟨rfl, K1.out.bb⟩
  case pos =>
    obtain ⟨hn, hf0, hi0, hp0, ha1⟩ := of_decide_eq_true hB
    rw [hB]
    clear hB
    obtain ⟨n, rfl⟩ : ∃ n : Nat, o = (n : Int) := ⟨o.toNat, by omega⟩
    have hn6 : n < 6 := by omega
    obtain ⟨x, y, z, u, eA, x0, xf, y0, yi, z0, zp, u0, su⟩ := alG_fits hn6 hf0 hi0 hp0 ha1
    have A1 : Hid (∀ w', Below w.heap.size w w' → Calls Tryd.prog 8 #[.int .i64 (n : Int), .agg (bkL [f, i, p]).toArray, .int .i64 a] w' fun e w2 => e = .returned (.tuple #[.agg (bkL [x, y, z, u, 0]).toArray, .int .i64 0]) ∧ Below w'.heap.size w' w2) := fun w' hb => by
      have := AL.out w' hb
      rwa [(alE_ok hn6 hf0 hi0 hp0 ha1).1, (alE_ok hn6 hf0 hi0 hp0 ha1).2, eA] at this
    have O1 : Hid (∀ w', Below w.heap.size w w' → Calls Tryd.prog 7 #[.int .i64 (n : Int)] w' fun e w2 => e = .returned (.tuple #[.agg (bkL [(kd n 0 : Int), (kd n 1 : Int), (kd n 2 : Int)]).toArray, .bool true]) ∧ Below w'.heap.size w' w2) := fun w' hb => by
      have := OR.out w' hb
      rwa [ordL_in n hn6, show ordB (n : Int) = true from decide_eq_true hn] at this
    have DA : Hid (∀ j, j < 3 → 0 ≤ dbA n f i p j ∧ dbA n f i p j ≤ 9223372036854775807) := fun j hj => dbA_ok hn6 hj hf0 hi0 hp0 hf.2 hi.2 hp.2
    have LF : Hid (∀ j, j ≤ 3 → 0 ≤ lf n f i p a j ∧ lf n f i p a j ≤ 9223372036854775807) := lf_ok hn6 hf0 hi0 hp0 hf.2 hi.2 hp.2 ha1 ha.2
    have FL : Hid (∀ j, j ≤ 3 → ful n f i p a j = false → lf n f i p a j = 0) := ful_left hn6 hf0 hi0 hp0 hf.2 hi.2 hp.2
    have LS : Hid (∀ j, lf n f i p a (j + 1) = lf n f i p a j - pd n f i p a j) := lf_succ n f i p a
    have PM : Hid (∀ j, pd n f i p a j = min (dbA n f i p j) (lf n f i p a j)) := pd_min n f i p a
    have OFA : Hid (∀ j, j < 3 → ∀ w', Calls Tryd.prog 9 #[.int .i64 (kd n j : Int), .agg (bkL [f, i, p]).toArray, .agg (bkL [x, y, z, u, 0]).toArray] w' fun e w2 => e = .returned (.tuple #[.int .i64 (dbA n f i p j), .int .i64 (pd n f i p a j)]) ∧ Below w'.heap.size w' w2) := fun j hj w' => by
      have := of_at (kd n j) f i p x y z u 0 w' (kd_all n hn6 j hj)
      rwa [ptK_db hn6 hj, ptK_al hn6 hj eA] at this
    have CKA : Hid (∀ j, j < 3 → ∀ G w', Blk G 25 (bkL [(kd n 0 : Int), (kd n 1 : Int), (kd n 2 : Int)]) w' → w'.cell? ⟨G, j, none⟩ = some (.int .i64 (kd n j : Int))) := fun j hj G w' h => by
      match j, hj with
      | 0, _ => exact h.cell 0 _ rfl
      | 1, _ => exact h.cell 1 _ rfl
      | 2, _ => exact h.cell 2 _ rfl
    have EU : Hid (u = lf n f i p a 3) := by
      have e := eA
      unfold alG at e
      injection e with _ e; injection e with _ e; injection e with _ e; injection e with e _
      exact e.symm
    obtain ⟨s6, m6⟩ := kd_six hn6
    have k0b := kd_all n hn6 0 (by omega)
    have k1b := kd_all n hn6 1 (by omega)
    have k2b := kd_all n hn6 2 (by omega)
    have F0 : Hid (lf n f i p a 0 = a ∧ ful n f i p a 0 = true) := ⟨rfl, rfl⟩
    clear AL OR eA hn su
    go_wp2_with fail
    refine (O1.out _ K1.out.bb).mono ?_
    rintro e w2 ⟨rfl, b2⟩
    have K2 : Hid (KB w [(w.heap.size, 23, bkL [f, i, p])] w2) := K1.out.call b2
    have Z2 : Hid (Blk w2.heap.size 25 (bkL [0, 0, 0]) (w2.alloc z3o)) := Blk.new 25 (bkL [0, 0, 0]) w2
    clear O1 K1 b2
    go_wp2_with (first
      | (refine step_store rfl 25 _ _ rfl w2.heap.size 0 25 (bkL [0, 0, 0]) (bkL [(kd n 0 : Int), (kd n 1 : Int), (kd n 2 : Int)]) rfl rfl Z2.out (Nat.le_refl _) infoT (bkL_one _) ?_; intro w3 nb3 g3; have K3 : Hid (KB w [(w2.heap.size, 25, bkL [(kd n 0 : Int), (kd n 1 : Int), (kd n 2 : Int)]), (w.heap.size, 23, bkL [f, i, p])] w3) := K2.out.put _ nb3 g3; clear nb3 g3 K2 Z2)
      | (refine step_load rfl 23 _ rfl w.heap.size 0 rfl (bkL [f, i, p]) _ (K3.out.at 1 rfl).all Tryd.underlying23 rfl infoO ?_))
    refine (A1.out _ K3.out.bb).mono ?_
    rintro e w4 ⟨rfl, b4⟩
    have K4 : Hid (KB w [(w2.heap.size, 25, bkL [(kd n 0 : Int), (kd n 1 : Int), (kd n 2 : Int)]), (w.heap.size, 23, bkL [f, i, p])] w4) := K3.out.call b4
    have Z4 : Hid (Blk w4.heap.size 29 (bkL z5) (w4.alloc z5o)) := Blk.new 29 (bkL z5) w4
    clear A1 K3 b4
    go_upto_region 5 with (refine step_store rfl 29 _ _ rfl w4.heap.size 0 29 (bkL z5) (bkL [x, y, z, u, 0]) rfl rfl Z4.out (Nat.le_refl _) infoP (bkL_one _) ?_; intro w5 nb5 g5; have K5 : Hid (KB w [(w4.heap.size, 29, bkL [x, y, z, u, 0]), (w2.heap.size, 25, bkL [(kd n 0 : Int), (kd n 1 : Int), (kd n 2 : Int)]), (w.heap.size, 23, bkL [f, i, p])] w5) := K4.out.put _ nb5 g5; clear nb5 g5 K4 Z4)
    have m3 := (K5.out.at 0 rfl).cell 3 _ rfl
    have m4 := (K5.out.at 0 rfl).cell 4 _ rfl
    have c0 := (K5.out.at 1 rfl).cell 0 _ rfl
    have c1 := (K5.out.at 1 rfl).cell 1 _ rfl
    have c2 := (K5.out.at 1 rfl).cell 2 _ rfl
    have du : decide (u < 0) = false := by simp; omega
    go_wp2_with fail
    clear m3 m4 c0 c1 c2 du s6 m6 k0b k1b k2b
    go_loopw [11, 12, 13, 14, 15] (fun vl vf vk _ _ wr => ∃ j : Nat, vk = .int .i64 (j : Int) ∧ j ≤ 3 ∧ vl = .int .i64 (lf n f i p a j) ∧ vf = .bool (ful n f i p a j) ∧ KB w [(w4.heap.size, 29, bkL [x, y, z, u, 0]), (w2.heap.size, 25, bkL [(kd n 0 : Int), (kd n 1 : Int), (kd n 2 : Int)]), (w.heap.size, 23, bkL [f, i, p])] wr) (fun _ _ vk _ _ _ => 3 - (intOf vk).toNat)
    case atStart => exact ⟨0, rfl, by omega, by rw [F0.out.1], by rw [F0.out.2], K5.out⟩
    case round =>
      clear K5
      obtain ⟨j, rfl, hj, rfl, rfl, kb⟩ := hrel
      by_cases hlt : (j : Int) < 3
      · have hj3 : j < 3 := by omega
        have CK : Hid (∀ w', Blk w2.heap.size 25 (bkL [(kd n 0 : Int), (kd n 1 : Int), (kd n 2 : Int)]) w' → w'.cell? ⟨w2.heap.size, j, none⟩ = some (.int .i64 (kd n j : Int))) := fun w' h => CKA.out j hj3 _ w' h
        have OF := OFA.out j hj3
        have OF : Hid (∀ w', _) := OF
        have d := DA.out j hj3
        have l := LF.out j (by omega)
        have fl := FL.out j (by omega)
        have E1 := LS.out j
        have pm := PM.out j
        have E2 : ful n f i p a (j + 1) = (ful n f i p a j && (pd n f i p a j == dbA n f i p j)) := rfl
        have KR : Hid (KB w [(w4.heap.size, 29, bkL [x, y, z, u, 0]), (w2.heap.size, 25, bkL [(kd n 0 : Int), (kd n 1 : Int), (kd n 2 : Int)]), (w.heap.size, 23, bkL [f, i, p])] wr) := kb
        clear kb CKA OFA DA LF FL LS PM F0
        generalize dbA n f i p j = dd at *
        generalize pd n f i p a j = qq at *
        generalize lf n f i p a j = ll at *
        generalize ful n f i p a j = bb at *
        generalize kd n j = m at *
        have q1 : decide (qq < 0) = false := by simp; omega
        have q2 : decide (dd < qq) = false := by simp; omega
        have q3 : decide (ll < qq) = false := by simp; omega
        have q5 : -9223372036854775808 ≤ ll - qq ∧ ll - qq ≤ 9223372036854775807 := by omega
        have E1 : Hid (_ = _) := E1
        generalize hbe : (qq == dd) = be at *
        have E2 : Hid (ful n f i p a (j + 1) = (bb && be)) := E2
        have WAY : Hid ((bb = true ∧ decide (0 < qq) = true) ∨ (bb = true ∧ decide (0 < qq) = false) ∨ (bb = false ∧ decide (0 < qq) = false)) := by
          show _ ∨ _
          cases bb
          · have := fl rfl
            exact .inr (.inr ⟨rfl, by simp; omega⟩)
          · cases h : decide (0 < qq)
            · exact .inr (.inl ⟨rfl, rfl⟩)
            · exact .inl ⟨rfl, rfl⟩
        clear fl d l pm
        have jb : (j : Int) < 3 := hlt
        have j0 : (0 : Int) ≤ (j : Int) := by omega
        go_wp2_with fail
        refine wp_region_held_drew (S := fun w' => KB w [(w4.heap.size, 29, bkL [x, y, z, u, 0]), (w2.heap.size, 25, bkL [(kd n 0 : Int), (kd n 1 : Int), (kd n 2 : Int)]), (w.heap.size, 23, bkL [f, i, p])] w') (by kernel_rfl) (KR.out.drewN 1) (fun hH => ?_)
        refine wpAnyH_take (i := 0) (v := .int .i64 (j : Int)) rfl (by kernel_rfl) (by kernel_rfl) (by kernel_rfl) (fun _ _ _ h => h) (Or.inl ⟨by rfl, fun w' hs => by go_simp⟩) hH ?_
        simp only [Act.put]
        refine wpAnyH_take (i := 1) (v := .pointer (some ⟨w2.heap.size, j, none⟩)) rfl (by kernel_rfl) (by kernel_rfl) (by kernel_rfl) (fun _ _ _ h => h) (Or.inl ⟨by rfl, fun w' hs => by go_simp⟩) hH ?_
        simp only [Act.put]
        refine wpAnyH_take (i := 2) (v := .int .i64 (m : Int)) rfl (by kernel_rfl) (by kernel_rfl) (by kernel_rfl) (fun _ _ _ h => h) (Or.inl ⟨by rfl, fun w' hs => by have c := CK.out w' (hs.at 1 rfl); go_simp⟩) hH ?_
        simp only [Act.put]
        refine' wpAnyH_take (i := 3) (v := _) rfl (by kernel_rfl) (by kernel_rfl) (by kernel_rfl) (fun _ _ _ h => h) (yieldsIf_load_mid (by rfl) _ _ rfl _ _ rfl (bkL [f, i, p]) _ (fun w' h => (h.at 2 rfl).all) Tryd.underlying23 rfl infoO) hH ?_
        simp only [Act.put]
        refine' wpAnyH_take (i := 4) (v := _) rfl (by kernel_rfl) (by kernel_rfl) (by kernel_rfl) (fun _ _ _ h => h) (yieldsIf_load_mid (by rfl) _ _ rfl _ _ rfl (bkL [x, y, z, u, 0]) _ (fun w' h => (h.at 0 rfl).all) Tryd.underlying29 rfl infoP) hH ?_
        simp only [Act.put]
        refine wpAnyH_ready (rs := [5]) (by kernel_rfl) (by simp) ?_
        refine AllReadyH.cons rfl (fun K hK => ?_) AllReadyH.nil
        go_simp
        refine (OF.out _).mono ?_
        rintro e wa ⟨rfl, ba⟩
        refine hK.out _ _ (hH.call ba) (fun hH => ?_)
        refine wpAnyH_take (i := 6) (v := .tuple #[.int .i64 dd, .int .i64 qq]) rfl (by kernel_rfl) (by kernel_rfl) (by kernel_rfl) (fun _ _ _ h => h) (Or.inl ⟨by rfl, fun w' hs => by go_simp⟩) hH ?_
        simp only [Act.put]
        refine wpAnyH_take (i := 7) (v := .int .i64 dd) rfl (by kernel_rfl) (by kernel_rfl) (by kernel_rfl) (fun _ _ _ h => h) (Or.inl ⟨by rfl, fun w' hs => by go_simp⟩) hH ?_
        simp only [Act.put]
        refine wpAnyH_take (i := 8) (v := .int .i64 qq) rfl (by kernel_rfl) (by kernel_rfl) (by kernel_rfl) (fun _ _ _ h => h) (Or.inl ⟨by rfl, fun w' hs => by go_simp⟩) hH ?_
        simp only [Act.put]
        refine wpAnyH_take (i := 9) (v := .int .i64 dd) rfl (by kernel_rfl) (by kernel_rfl) (by kernel_rfl) (fun _ _ _ h => h) (Or.inl ⟨by rfl, fun w' hs => by go_simp⟩) hH ?_
        simp only [Act.put]
        refine wpAnyH_take (i := 10) (v := .int .i64 qq) rfl (by kernel_rfl) (by kernel_rfl) (by kernel_rfl) (fun _ _ _ h => h) (Or.inl ⟨by rfl, fun w' hs => by go_simp⟩) hH ?_
        simp only [Act.put, List.getElem_toArray, List.getElem_cons_succ, List.getElem_cons_zero]
        refine wpAnyH_done (by kernel_rfl) ?_ _
        have K5 : Hid (KB w [(w4.heap.size, 29, bkL [x, y, z, u, 0]), (w2.heap.size, 25, bkL [(kd n 0 : Int), (kd n 1 : Int), (kd n 2 : Int)]), (w.heap.size, 23, bkL [f, i, p])] wa) := hH
        clear hH hK KR OF CK
        rcases WAY.out with ⟨rfl, q4⟩ | ⟨rfl, q4⟩ | ⟨rfl, q4⟩
        all_goals go_wp2_with fail
        all_goals exact ⟨⟨j + 1, by go_num, by omega, by rw [E1.out], by rw [E2.out]; first | rfl | simp, K5.out⟩, by simp [intOf]; omega⟩
      · obtain rfl : j = 3 := by omega
        have m3 := (kb.at 0 rfl).cell 3 _ rfl
        have eu := EU.out
        have fl := FL.out 3 (by omega)
        have BB : Hid (Below w.heap.size w wr) := kb.bb
        rw [eu] at m3
        clear kb CKA OFA DA LF FL LS PM F0 EU eu u0
        generalize lf n f i p a 3 = l3 at *
        generalize ful n f i p a 3 = bb at *
        have el : (l3 == l3) = true := by simp
        cases bb
        · obtain rfl : l3 = 0 := fl rfl
          clear fl
          go_wp2_with fail
          go_ret
          exact ⟨rfl, BB.out⟩
        · clear fl
          obtain ⟨c, hc⟩ : ∃ c, (l3 == 0) = c := ⟨_, rfl⟩
          cases c
          all_goals
            go_wp2_with fail
            go_ret
            exact ⟨rfl, BB.out⟩
end Go.Proofs.YtplebplpachgiaaDoor
