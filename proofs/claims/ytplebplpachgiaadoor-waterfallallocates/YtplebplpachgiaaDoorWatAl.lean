/-
  Ours: Allocate.
-/
import Derived.Test.YtplebplpachgiaaDoorWatAlM
import Derived.Deep.CutRange
namespace Go.Proofs.YtplebplpachgiaaDoor
open Go.RowKit LedM WatM

theorem index_kd {n : Nat} (j : Nat) (hj : j < 3) (w : World) : (Instr.index 25 (.agg (bkL [(kd n 0 : Int), (kd n 1 : Int), (kd n 2 : Int)]).toArray) (.int .i64 (j : Int))).run Tryd.prog w = .ok (.int .i64 (kd n j : Int)) w :=
  run_index_one 25 3 3 _ _ j _ Tryd.underlying25 hj Tryd.underlying3 rfl (by kernel_rfl) (by
    rw [List.getElem?_toArray]
    match j, hj with
    | 0, _ => rfl
    | 1, _ => rfl
    | 2, _ => rfl) w

set_option maxRecDepth 20000 in
set_option maxHeartbeats 1600000 in
theorem alloc_at (o f i p a : Int) (w : World) (ho : i64 o) (hf : i64 f) (hi : i64 i) (hp : i64 p) (ha : i64 a) (hT : TabO w) :
    Calls Tryd.prog 8 #[.int .i64 o, .agg (bkL [f, i, p]).toArray, .int .i64 a] w fun e w' => e = .returned (.tuple #[.agg (bkL (alP o f i p a)).toArray, .int .i64 (alE o f i p a)]) ∧ Below w.heap.size w w' := by
  have OR : Hid (∀ w', Below w.heap.size w w' → Calls Tryd.prog 7 #[.int .i64 o] w' fun e w2 => e = .returned (.tuple #[.agg (bkL (ordL o)).toArray, .bool (ordB o)]) ∧ Below w'.heap.size w' w2) := fun w' hb => order_at o w' ho (hT.later hb)
  have S0 : Hid (AlS w f i p (w.heap.size + 1) z5 ((w.alloc (.cells (bkL [f, i, p]).toArray 23)).alloc z5o)) := AlS.new w f i p
  unfold i64 at ho hf hi hp ha
  clear hT
  generalize hcs : bkL [f, i, p] = cs at *
  clear hcs
  go_enter Tryd.func8, Tryd.ntmps8
  go_wp2_with fail
  refine (OR.out _ S0.out.2.2.1).mono ?_
  rintro e w1 ⟨rfl, b1⟩
  have S1 : Hid (AlS w f i p (w.heap.size + 1) z5 w1) := S0.out.call b1
  clear OR S0 b1
  have SA : Hid (AlS w f i p (w.heap.size + 1) z5 (w1.alloc z3o)) := S1.out.alloc _
  have N1 : Hid (Blk w1.heap.size 25 (bkL [0, 0, 0]) (w1.alloc z3o)) := Blk.new 25 (bkL [0, 0, 0]) w1
  have L1 : Hid (w.heap.size + 1 < w1.heap.size) := S1.out.2.1.lt
  obtain ⟨k0, k1, k2, hk⟩ := ordL_three o
  have OK : Hid (ordL o = [k0, k1, k2]) := hk
  rw [hk]
  clear hk
  have CUT : ∀ w2, AlS w f i p (w.heap.size + 1) z5 w2 → Blk w1.heap.size 25 (bkL [k0, k1, k2]) w2 → True := fun _ _ _ => trivial
  clear CUT
  generalize hob : ordB o = ob at *
  have OB : Hid (ordB o = ob) := hob
  clear hob
  go_upto_region 2 with (refine step_store rfl 25 _ _ rfl w1.heap.size 0 25 (bkL [0, 0, 0]) (bkL [k0, k1, k2]) rfl rfl N1.out (Nat.le_refl _) infoT (bkL_one _) ?_; intro w2 nb2 g2; have N2 : Hid (Blk w1.heap.size 25 (bkL [k0, k1, k2]) w2) := nb2; have S2 : Hid (AlS w f i p (w.heap.size + 1) z5 w2) := SA.out.other g2 L1.out; clear nb2 g2 N1 SA S1)
  obtain ⟨c0, c1, c2⟩ := S2.out.cells
  by_cases hbad : ¬(0 ≤ o ∧ o < 6) ∨ f < 0 ∨ i < 0 ∨ p < 0
  · obtain ⟨E1, E2⟩ := alE_two (a := a) hbad
    have EE : Hid (alE o f i p a = 2 ∧ alP o f i p a = z5) := ⟨E1, E2⟩
    have WAY : Hid (ob = false ∨ ob = true ∧ (f < 0 ∨ 0 ≤ f ∧ (i < 0 ∨ 0 ≤ i ∧ p < 0))) := by
      show _ ∨ _
      cases ob
      · exact .inl rfl
      · have : 0 ≤ o ∧ o < 6 := of_decide_eq_true OB.out
        refine .inr ⟨rfl, ?_⟩
        omega
    clear E1 E2 hbad OB OK
    rcases WAY.out with rfl | ⟨rfl, h | ⟨h, h' | ⟨h', h''⟩⟩⟩
    all_goals
      go_wp2_with (refine step_store rfl 29 _ _ rfl (w.heap.size + 1) 0 29 (bkL z5) (bkL z5) rfl rfl S2.out.2.1 (Nat.le_refl _) infoP (bkL_one _) ?_; intro w9 nb9 g9; have N9 : Hid (Blk (w.heap.size + 1) 29 (bkL z5) w9 ∧ Below w.heap.size w w9) := S2.out.done g9 nb9; clear nb9 g9)
      refine ret_blk_tmp rfl rfl (w.heap.size + 1) 29 (bkL z5) _ rfl N9.out.1 Tryd.underlying29 rfl infoP ?_
      rw [EE.out.1, EE.out.2]
      exact ⟨rfl, N9.out.2⟩
  · have OO : 0 ≤ o ∧ o < 6 := by omega
    obtain rfl : true = ob := by rw [← OB.out]; exact (decide_eq_true OO).symm
    by_cases h4 : a < 1
    · obtain ⟨E1, E2⟩ := alE_four hbad h4
      have EE : Hid (alE o f i p a = 4 ∧ alP o f i p a = z5) := ⟨E1, E2⟩
      have hf0 : 0 ≤ f := by omega
      have hi0 : 0 ≤ i := by omega
      have hp0 : 0 ≤ p := by omega
      clear E1 E2 hbad OB OK OO
      go_wp2_with (refine step_store rfl 29 _ _ rfl (w.heap.size + 1) 0 29 (bkL z5) (bkL z5) rfl rfl S2.out.2.1 (Nat.le_refl _) infoP (bkL_one _) ?_; intro w9 nb9 g9; have N9 : Hid (Blk (w.heap.size + 1) 29 (bkL z5) w9 ∧ Below w.heap.size w w9) := S2.out.done g9 nb9; clear nb9 g9)
      refine ret_blk_tmp rfl rfl (w.heap.size + 1) 29 (bkL z5) _ rfl N9.out.1 Tryd.underlying29 rfl infoP ?_
      rw [EE.out.1, EE.out.2]
      exact ⟨rfl, N9.out.2⟩
    · obtain ⟨n, rfl⟩ : ∃ n : Nat, o = (n : Int) := ⟨o.toNat, by omega⟩
      have hn : n < 6 := by omega
      have hf0 : 0 ≤ f := by omega
      have hi0 : 0 ≤ i := by omega
      have hp0 : 0 ≤ p := by omega
      have ha1 : 1 ≤ a := by omega
      obtain ⟨E1, E2⟩ := alE_ok hn hf0 hi0 hp0 ha1
      have EE : Hid (alE (n : Int) f i p a = 0 ∧ alP (n : Int) f i p a = alG n f i p a) := ⟨E1, E2⟩
      have OK2 := OK.out
      rw [ordL_in n hn] at OK2
      injection OK2 with q0 q1
      injection q1 with q1 q2
      injection q2 with q2 _
      subst q0 q1 q2
      have DA : Hid (∀ j, j < 3 → 0 ≤ dbA n f i p j ∧ dbA n f i p j ≤ 9223372036854775807) := fun j hj => dbA_ok hn hj hf0 hi0 hp0 hf.2 hi.2 hp.2
      have LF : Hid (∀ j, j ≤ 3 → 0 ≤ lf n f i p a j ∧ lf n f i p a j ≤ 9223372036854775807) := lf_ok hn hf0 hi0 hp0 hf.2 hi.2 hp.2 ha1 ha.2
      have KD : Hid (∀ j, j < 3 → 1 ≤ kd n j ∧ kd n j ≤ 3) := fun j hj => by rcases kd_all n hn j hj with e | e | e <;> omega
      have IX : Hid (∀ j : Nat, j < 3 → ∀ w : World, (Instr.index 25 (.agg (bkL [(kd n 0 : Int), (kd n 1 : Int), (kd n 2 : Int)]).toArray) (.int .i64 (j : Int))).run Tryd.prog w = .ok (.int .i64 (kd n j : Int)) w) := fun j hj w => index_kd j hj w
      have L2 : Hid (w1.heap.size < w2.heap.size) := N2.out.lt
      have B2 : Hid (Below w2.heap.size w2 ((w2.alloc (.cells #[.int .i64 0, .int .i64 p, .int .i64 i, .int .i64 f, .int .i64 0, .int .i64 0, .int .i64 0, .int .i64 0, .int .i64 0, .int .i64 0, .int .i64 0, .int .i64 0] 41)).alloc (.cells #[.int .i64 0, .int .i64 0, .int .i64 0, .int .i64 0, .int .i64 0, .int .i64 0, .int .i64 0, .int .i64 0, .int .i64 0, .int .i64 0, .int .i64 0, .int .i64 0] 41))) := (below_alloc w2 _).alloc (by simp) _
      have D3 : Hid (Blk w2.heap.size 41 (bkL (dbL f i p)) ((w2.alloc (.cells #[.int .i64 0, .int .i64 p, .int .i64 i, .int .i64 f, .int .i64 0, .int .i64 0, .int .i64 0, .int .i64 0, .int .i64 0, .int .i64 0, .int .i64 0, .int .i64 0] 41)).alloc (.cells #[.int .i64 0, .int .i64 0, .int .i64 0, .int .i64 0, .int .i64 0, .int .i64 0, .int .i64 0, .int .i64 0, .int .i64 0, .int .i64 0, .int .i64 0, .int .i64 0] 41))) := (Blk.new _ (bkL (dbL f i p)) w2).old _
      have P3 : Hid (Blk (w2.heap.size + 1) 41 (bkL z12) ((w2.alloc (.cells #[.int .i64 0, .int .i64 p, .int .i64 i, .int .i64 f, .int .i64 0, .int .i64 0, .int .i64 0, .int .i64 0, .int .i64 0, .int .i64 0, .int .i64 0, .int .i64 0] 41)).alloc (.cells #[.int .i64 0, .int .i64 0, .int .i64 0, .int .i64 0, .int .i64 0, .int .i64 0, .int .i64 0, .int .i64 0, .int .i64 0, .int .i64 0, .int .i64 0, .int .i64 0] 41))) := Blk.new2 _ (bkL z12) w2 _
      have T3 : Hid (Blk w1.heap.size 25 (bkL [(kd n 0 : Int), (kd n 1 : Int), (kd n 2 : Int)]) ((w2.alloc (.cells #[.int .i64 0, .int .i64 p, .int .i64 i, .int .i64 f, .int .i64 0, .int .i64 0, .int .i64 0, .int .i64 0, .int .i64 0, .int .i64 0, .int .i64 0, .int .i64 0] 41)).alloc (.cells #[.int .i64 0, .int .i64 0, .int .i64 0, .int .i64 0, .int .i64 0, .int .i64 0, .int .i64 0, .int .i64 0, .int .i64 0, .int .i64 0, .int .i64 0, .int .i64 0] 41))) := N2.out.below B2.out
      have S3 : Hid (AlS w f i p (w.heap.size + 1) z5 _) := S2.out.call B2.out
      clear E1 E2 hbad OB OK OO S2 N2 B2
      go_wp2_with (refine step_load rfl 25 _ rfl w1.heap.size 0 rfl (bkL [(kd n 0 : Int), (kd n 1 : Int), (kd n 2 : Int)]) _ T3.out.all Tryd.underlying25 rfl infoT ?_)
      clear T3 c0 c1 c2
      generalize ((w2.alloc (.cells #[.int .i64 0, .int .i64 p, .int .i64 i, .int .i64 f, .int .i64 0, .int .i64 0, .int .i64 0, .int .i64 0, .int .i64 0, .int .i64 0, .int .i64 0, .int .i64 0] 41)).alloc (.cells #[.int .i64 0, .int .i64 0, .int .i64 0, .int .i64 0, .int .i64 0, .int .i64 0, .int .i64 0, .int .i64 0, .int .i64 0, .int .i64 0, .int .i64 0, .int .i64 0] 41)) = w3 at *
      have LL : Hid (w.heap.size + 1 < w2.heap.size) := Nat.lt_trans L1.out L2.out
      clear L1 L2
      generalize w2.heap.size = D at *
      go_loopw [12, 14, 50] (fun vl _ vk wr => ∃ j : Nat, vk = .int .i64 (j : Int) ∧ j ≤ 3 ∧ vl = .int .i64 (lf n f i p a j) ∧ AlS w f i p (w.heap.size + 1) z5 wr ∧ Blk D 41 (bkL (dbL f i p)) wr ∧ Blk (D + 1) 41 (bkL (pdL n f i p a j)) wr) (fun _ _ vk _ => 3 - (intOf vk).toNat)
      case atStart => exact ⟨0, rfl, by omega, rfl, S3.out, D3.out, P3.out⟩
      case round =>
        clear S3 D3 P3
        obtain ⟨j, rfl, hj, rfl, ss, dd, pp⟩ := hrel
        by_cases hlt : (j : Int) < 3
        · have ix := IX.out j (by omega) wr
          obtain ⟨m1, m3⟩ := KD.out j (by omega)
          obtain ⟨x0, x1⟩ := DA.out j (by omega)
          obtain ⟨y0, y1⟩ := LF.out j (by omega)
          have cd : wr.cell? ⟨D, kd n j, none⟩ = some (.int .i64 (dbA n f i p j)) := dd.cell (kd n j) _ (bkL_at (by simp [dbL]; omega))
          have cp := pp.cell (kd n j) _ (bkL_at (by rw [pdL_len]; omega))
          have fz := pp.fz (kd n j)
          have NX : Hid (∀ x, x = pd n f i p a j → AlS w f i p (w.heap.size + 1) z5 (wr.setCell ⟨D + 1, kd n j, none⟩ (.int .i64 x)) ∧ Blk D 41 (bkL (dbL f i p)) (wr.setCell ⟨D + 1, kd n j, none⟩ (.int .i64 x)) ∧ Blk (D + 1) 41 (bkL (pdL n f i p a (j + 1))) (wr.setCell ⟨D + 1, kd n j, none⟩ (.int .i64 x))) := fun x hx => by
            have g := setCell_grown wr (D + 1) (kd n j) (.int .i64 x)
            refine ⟨ss.other g (by have := LL.out; omega), dd.grown g (by simp), ?_⟩
            have := pp.set (i := kd n j) (.int .i64 x)
            rw [show pdL n f i p a (j + 1) = (pdL n f i p a j).set (kd n j) x from by rw [hx]; rfl]
            simpa [bkL, List.map_set] using this
          have E1 : Hid (lf n f i p a (j + 1) = if dbA n f i p j ≤ lf n f i p a j then lf n f i p a j - dbA n f i p j else 0) := rfl
          have E2 : Hid (pd n f i p a j = if dbA n f i p j ≤ lf n f i p a j then dbA n f i p j else lf n f i p a j) := rfl
          generalize pd n f i p a j = q at *
          generalize dbA n f i p j = x at *
          generalize lf n f i p a j = l at *
          generalize kd n j = m at *
          generalize (pdL n f i p a j).getD m 0 = old at *
          clear IX DA LF KD ss dd pp
          by_cases hm : x ≤ l
          · obtain rfl : q = x := by have := E2.out; rwa [if_pos hm] at this
            have EL : Hid (lf n f i p a (j + 1) = l - q) := by have := E1.out; rwa [if_pos hm] at this
            clear E1 E2
            have NX := NX.out q rfl
            have NX : Hid (_ ∧ _ ∧ _) := NX
            go_wp2_with fail
            go_roundw
            case rel => exact ⟨j + 1, by go_num, by omega, by rw [EL.out], NX.out⟩
            case measure => simp [intOf]; omega
          · obtain rfl : q = l := by have := E2.out; rwa [if_neg hm] at this
            have EL : Hid (lf n f i p a (j + 1) = 0) := by have := E1.out; rwa [if_neg hm] at this
            clear E1 E2
            have NX := NX.out q rfl
            have NX : Hid (_ ∧ _ ∧ _) := NX
            have e0 : q - q = 0 := by omega
            go_wp2_with fail
            go_roundw
            case rel => exact ⟨j + 1, by go_num, by omega, by rw [EL.out], NX.out⟩
            case measure => simp [intOf]; omega
        · obtain rfl : j = 3 := by omega
          have p1 := pp.cell 1 _ (bkL_at (by rw [pdL_len]; omega))
          have p2 := pp.cell 2 _ (bkL_at (by rw [pdL_len]; omega))
          have p3 := pp.cell 3 _ (bkL_at (by rw [pdL_len]; omega))
          have AG : Hid (alG n f i p a = [(pdL n f i p a 3).getD 3 0, (pdL n f i p a 3).getD 2 0, (pdL n f i p a 3).getD 1 0, lf n f i p a 3, 0]) := rfl
          have SS : Hid (AlS w f i p (w.heap.size + 1) z5 wr) := ss
          generalize (pdL n f i p a 3).getD 3 0 = a3 at *
          generalize (pdL n f i p a 3).getD 2 0 = a2 at *
          generalize (pdL n f i p a 3).getD 1 0 = a1 at *
          generalize lf n f i p a 3 = l3 at *
          clear IX DA LF KD ss dd pp
          go_wp2_with (refine step_store rfl 29 _ _ rfl (w.heap.size + 1) 0 29 (bkL z5) (bkL [a3, a2, a1, l3, 0]) rfl rfl SS.out.2.1 (Nat.le_refl _) infoP (bkL_one _) ?_; intro w9 nb9 g9; have N9 : Hid (Blk (w.heap.size + 1) 29 (bkL [a3, a2, a1, l3, 0]) w9 ∧ Below w.heap.size w w9) := SS.out.done g9 nb9; clear nb9 g9)
          refine ret_blk_tmp rfl rfl (w.heap.size + 1) 29 (bkL [a3, a2, a1, l3, 0]) _ rfl N9.out.1 Tryd.underlying29 rfl infoP ?_
          rw [EE.out.1, EE.out.2, AG.out]
          exact ⟨rfl, N9.out.2⟩
end Go.Proofs.YtplebplpachgiaaDoor
