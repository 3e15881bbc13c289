/-
  Ours: the law's sameLoan (gen_wst7.py).
-/
import Derived.Test.YtdbjjeaflfoppaaWirStS
namespace Go.Proofs.Ytdbjjeaflfoppaa
open Go.RowKit WsM

theorem sizT (x : List Int) : (Try.prog.info? 55).map (·.size) = some (i6 x).length := by show _ = some 6; kernel_rfl
theorem sizB (x : List Int) : (Try.prog.info? 59).map (·.size) = some (i12 x).length := by show _ = some 12; kernel_rfl
theorem sizC (s : Int) (z : Bool) (x : List Int) : (Try.prog.info? 61).map (·.size) = some (cs15 s z x).length := by show _ = some 15; kernel_rfl
theorem sizP (x : List Int) : (Try.prog.info? 63).map (·.size) = some (i5 x).length := by show _ = some 5; kernel_rfl
set_option maxRecDepth 40000 in
set_option maxHeartbeats 8000000 in
theorem sameLoan_at (l m : Ln) (ok : l.Ok) (ok' : m.Ok) (pv qv : Value) (w : World) (hl : l.pl.length ≤ 1000000000000) (h : RdS 4 w pv (l.pl.map insL)) (h' : RdS 4 w qv (m.pl.map insL)) :
    Calls Try.prog 28 #[.agg (lnL l pv).toArray, .agg (lnL m qv).toArray] w fun e w' => AnsB (l = m) e ∧ Below w.heap.size w w' := by
  obtain ⟨pa, pc, rfl, -, -⟩ := h.len
  obtain ⟨qa, qc, rfl, -, -⟩ := h'.len
  obtain ⟨pn, hpn⟩ : ∃ n, (l.pl.map insL).length = n := ⟨_, rfl⟩
  obtain ⟨qn, hqn⟩ : ∃ n, (m.pl.map insL).length = n := ⟨_, rfl⟩
  rw [hpn] at h ⊢
  rw [hqn] at h' ⊢
  have SP : Hid (∀ W, Below w.heap.size w W → Calls Try.prog 63 #[.slice pa pn pc, .slice qa qn qc] W fun e w' => AnsB (l.pl = m.pl) e ∧ ∃ n, w' = W.drewN n) := fun W hb => samePlan_at l.pl m.pl ok.pl ok'.pl _ _ W hl (h.later hb) (h'.later hb)
  obtain ⟨r1, q1, i1⟩ := eqTm l.tm m.tm ok.tmL ok'.tmL ok.tm ok'.tm
  obtain ⟨r3, q3, i3⟩ := eqBk l.bk m.bk ok.bkL ok'.bkL ok.bk ok'.bk
  obtain ⟨r4, q4, i4⟩ := eqCs l.st m.st l.su m.su l.cs m.cs ok.st ok'.st ok.csL ok'.csL ok.cs ok'.cs
  obtain ⟨r8, q8, i8⟩ := eqPa l.la m.la ok.laL ok'.laL ok.la ok'.la
  have gdr1 : Try.prog.eqGuardType Try.prog.depth 55 = false := by kernel_rfl
  have gdr3 : Try.prog.eqGuardType Try.prog.depth 59 = false := by kernel_rfl
  have gdr4 : Try.prog.eqGuardType Try.prog.depth 61 = false := by kernel_rfl
  have gdr8 : Try.prog.eqGuardType Try.prog.depth 63 = false := by kernel_rfl
  have HA : Hid (l.id = m.id → r1 = true → l.pl = m.pl → r3 = true → r4 = true → l.d3.getD 0 0 = m.d3.getD 0 0 → l.d3.getD 1 0 = m.d3.getD 1 0 → l.d3.getD 2 0 = m.d3.getD 2 0 → r8 = true → l.hl = m.hl → l.c2.getD 0 0 = m.c2.getD 0 0 → l.c2.getD 1 0 = m.c2.getD 1 0 → l = m) := by
    intro e0 e1 e2 e3 e4 e5 e6 e7 e8 e9 e10 e11
    have d3 : l.d3 = m.d3 := by rw [← g3 ok.d3L, ← g3 ok'.d3L, e5, e6, e7]
    have c2 : l.c2 = m.c2 := by rw [← g2 ok.c2L, ← g2 ok'.c2L, e10, e11]
    have j1 := i1.1 e1
    have j3 := i3.1 e3
    have j4 := i4.1 e4
    have j8 := i8.1 e8
    clear ok ok' h h' hpn hqn SP q1 q3 q4 q8 i1 i3 i4 i8 e5 e6 e7 e10 e11 e1 e3 e4 e8
    cases l; cases m
    simp only at *
    obtain ⟨j4a, j4b, j4c⟩ := j4
    subst e0 j1 e2 j3 j4a j4b j4c d3 j8 e9 c2
    rfl
  have N1 : Hid (r1 = false → ¬ l = m) := fun h e => by rw [i1.2 (by rw [e])] at h; cases h
  have N3 : Hid (r3 = false → ¬ l = m) := fun h e => by rw [i3.2 (by rw [e])] at h; cases h
  have N4 : Hid (r4 = false → ¬ l = m) := fun h e => by rw [i4.2 (by rw [e]; exact ⟨rfl, rfl, rfl⟩)] at h; cases h
  have N8 : Hid (r8 = false → ¬ l = m) := fun h e => by rw [i8.2 (by rw [e])] at h; cases h
  have E1 : Hid (EqR 55 (i6 l.tm) (i6 m.tm) r1) := q1
  have E3 : Hid (EqR 59 (i12 l.bk) (i12 m.bk) r3) := q3
  have E4 : Hid (EqR 61 (cs15 l.st l.su l.cs) (cs15 m.st m.su m.cs) r4) := q4
  have E8 : Hid (EqR 63 (i5 l.la) (i5 m.la) r8) := q8
  have BX : Hid (Blk w.heap.size 65 (lnL l (.slice pa pn pc)) ((w.alloc (.cells (lnL l (.slice pa pn pc)).toArray 65)).alloc (.cells (lnL m (.slice qa qn qc)).toArray 65))) := (Blk.new 65 _ w).old _
  have BY : Hid (Blk (w.heap.size + 1) 65 (lnL m (.slice qa qn qc)) ((w.alloc (.cells (lnL l (.slice pa pn pc)).toArray 65)).alloc (.cells (lnL m (.slice qa qn qc)).toArray 65))) := Blk.new2 65 _ w _
  have BW : Hid (Below w.heap.size w ((w.alloc (.cells (lnL l (.slice pa pn pc)).toArray 65)).alloc (.cells (lnL m (.slice qa qn qc)).toArray 65))) := below_trans (below_alloc _ _) (below_alloc _ _)
  clear ok ok' h h' hpn hqn q1 q3 q4 q8 i1 i3 i4 i8 hl
  go_enter Try.func28, Try.ntmps28
  go_upto_region 1 with fail
  generalize ((w.alloc (.cells (lnL l (.slice pa pn pc)).toArray 65)).alloc (.cells (lnL m (.slice qa qn qc)).toArray 65)) = W0 at *
  obtain ⟨X, hX⟩ : ∃ X, w.heap.size = X := ⟨_, rfl⟩
  rw [hX] at BX BY ⊢
  have HXX : Hid (w.heap.size = X) := hX
  clear hX
  have c0 : W0.cell? ⟨X, 0, none⟩ = some (.int .i64 (l.id)) := BX.out.cell 0 _ rfl
  have d0 : W0.cell? ⟨X + 1, 0, none⟩ = some (.int .i64 (m.id)) := BY.out.cell 0 _ rfl
  have K0 : Hid (¬ l.id = m.id → ¬ l = m) := fun h e => h (by rw [e])
  have c5 : W0.cell? ⟨X, 35, none⟩ = some (.int .i64 (l.d3.getD 0 0)) := BX.out.cell 35 _ rfl
  have d5 : W0.cell? ⟨X + 1, 35, none⟩ = some (.int .i64 (m.d3.getD 0 0)) := BY.out.cell 35 _ rfl
  have K5 : Hid (¬ l.d3.getD 0 0 = m.d3.getD 0 0 → ¬ l = m) := fun h e => h (by rw [e])
  have c6 : W0.cell? ⟨X, 36, none⟩ = some (.int .i64 (l.d3.getD 1 0)) := BX.out.cell 36 _ rfl
  have d6 : W0.cell? ⟨X + 1, 36, none⟩ = some (.int .i64 (m.d3.getD 1 0)) := BY.out.cell 36 _ rfl
  have K6 : Hid (¬ l.d3.getD 1 0 = m.d3.getD 1 0 → ¬ l = m) := fun h e => h (by rw [e])
  have c7 : W0.cell? ⟨X, 37, none⟩ = some (.int .i64 (l.d3.getD 2 0)) := BX.out.cell 37 _ rfl
  have d7 : W0.cell? ⟨X + 1, 37, none⟩ = some (.int .i64 (m.d3.getD 2 0)) := BY.out.cell 37 _ rfl
  have K7 : Hid (¬ l.d3.getD 2 0 = m.d3.getD 2 0 → ¬ l = m) := fun h e => h (by rw [e])
  have c9 : W0.cell? ⟨X, 43, none⟩ = some (.bool (l.hl)) := BX.out.cell 43 _ rfl
  have d9 : W0.cell? ⟨X + 1, 43, none⟩ = some (.bool (m.hl)) := BY.out.cell 43 _ rfl
  have K9 : Hid (¬ l.hl = m.hl → ¬ l = m) := fun h e => h (by rw [e])
  have c10 : W0.cell? ⟨X, 44, none⟩ = some (.int .i64 (l.c2.getD 0 0)) := BX.out.cell 44 _ rfl
  have d10 : W0.cell? ⟨X + 1, 44, none⟩ = some (.int .i64 (m.c2.getD 0 0)) := BY.out.cell 44 _ rfl
  have K10 : Hid (¬ l.c2.getD 0 0 = m.c2.getD 0 0 → ¬ l = m) := fun h e => h (by rw [e])
  have c11 : W0.cell? ⟨X, 45, none⟩ = some (.int .i64 (l.c2.getD 1 0)) := BX.out.cell 45 _ rfl
  have d11 : W0.cell? ⟨X + 1, 45, none⟩ = some (.int .i64 (m.c2.getD 1 0)) := BY.out.cell 45 _ rfl
  have K11 : Hid (¬ l.c2.getD 1 0 = m.c2.getD 1 0 → ¬ l = m) := fun h e => h (by rw [e])
  have c2 : W0.cell? ⟨X, 7, none⟩ = some (.slice pa pn pc) := BX.out.cell 7 _ rfl
  have d2 : W0.cell? ⟨X + 1, 7, none⟩ = some (.slice qa qn qc) := BY.out.cell 7 _ rfl
  obtain ⟨x0, ex0⟩ : ∃ x, x = l.id := ⟨_, rfl⟩
  obtain ⟨y0, ey0⟩ : ∃ y, y = m.id := ⟨_, rfl⟩
  rw [← ex0] at c0 HA K0
  rw [← ey0] at d0 HA K0
  clear ex0 ey0
  obtain ⟨x5, ex5⟩ : ∃ x, x = l.d3.getD 0 0 := ⟨_, rfl⟩
  obtain ⟨y5, ey5⟩ : ∃ y, y = m.d3.getD 0 0 := ⟨_, rfl⟩
  rw [← ex5] at c5 HA K5
  rw [← ey5] at d5 HA K5
  clear ex5 ey5
  obtain ⟨x6, ex6⟩ : ∃ x, x = l.d3.getD 1 0 := ⟨_, rfl⟩
  obtain ⟨y6, ey6⟩ : ∃ y, y = m.d3.getD 1 0 := ⟨_, rfl⟩
  rw [← ex6] at c6 HA K6
  rw [← ey6] at d6 HA K6
  clear ex6 ey6
  obtain ⟨x7, ex7⟩ : ∃ x, x = l.d3.getD 2 0 := ⟨_, rfl⟩
  obtain ⟨y7, ey7⟩ : ∃ y, y = m.d3.getD 2 0 := ⟨_, rfl⟩
  rw [← ex7] at c7 HA K7
  rw [← ey7] at d7 HA K7
  clear ex7 ey7
  obtain ⟨x9, ex9⟩ : ∃ x, x = l.hl := ⟨_, rfl⟩
  obtain ⟨y9, ey9⟩ : ∃ y, y = m.hl := ⟨_, rfl⟩
  rw [← ex9] at c9 HA K9
  rw [← ey9] at d9 HA K9
  clear ex9 ey9
  obtain ⟨x10, ex10⟩ : ∃ x, x = l.c2.getD 0 0 := ⟨_, rfl⟩
  obtain ⟨y10, ey10⟩ : ∃ y, y = m.c2.getD 0 0 := ⟨_, rfl⟩
  rw [← ex10] at c10 HA K10
  rw [← ey10] at d10 HA K10
  clear ex10 ey10
  obtain ⟨x11, ex11⟩ : ∃ x, x = l.c2.getD 1 0 := ⟨_, rfl⟩
  obtain ⟨y11, ey11⟩ : ∃ y, y = m.c2.getD 1 0 := ⟨_, rfl⟩
  rw [← ex11] at c11 HA K11
  rw [← ey11] at d11 HA K11
  clear ex11 ey11
  by_cases h0 : x0 = y0
  · have H0 : Hid (x0 = y0) := h0
    have a0 : (x0 != y0) = false := by simp [h0]
    have b0 : (x0 == y0) = true := by simp [h0]
    clear h0
    cases r1 with
    | true =>
      by_cases h2 : l.pl = m.pl
      · have H2 : Hid (l.pl = m.pl) := h2
        have PC : Hid (∀ W, Below w.heap.size w W → Calls Try.prog 63 #[.slice pa pn pc, .slice qa qn qc] W fun e w' => e = .returned (.bool true) ∧ ∃ n, w' = W.drewN n) := fun W hb => (SP.out W hb).mono fun e w' ⟨⟨b, h1, h2⟩, h3⟩ => ⟨by rw [h1, h2.2 H2.out], h3⟩
        clear SP h2
        cases r3 with
        | true =>
          cases r4 with
          | true =>
            by_cases h5 : x5 = y5
            · have H5 : Hid (x5 = y5) := h5
              have a5 : (x5 != y5) = false := by simp [h5]
              have b5 : (x5 == y5) = true := by simp [h5]
              clear h5
              by_cases h6 : x6 = y6
              · have H6 : Hid (x6 = y6) := h6
                have a6 : (x6 != y6) = false := by simp [h6]
                have b6 : (x6 == y6) = true := by simp [h6]
                clear h6
                by_cases h7 : x7 = y7
                · have H7 : Hid (x7 = y7) := h7
                  have a7 : (x7 != y7) = false := by simp [h7]
                  have b7 : (x7 == y7) = true := by simp [h7]
                  clear h7
                  cases r8 with
                  | true =>
                    by_cases h9 : x9 = y9
                    · have H9 : Hid (x9 = y9) := h9
                      have a9 : (x9 != y9) = false := by simp [h9]
                      have b9 : (x9 == y9) = true := by simp [h9]
                      clear h9
                      by_cases h10 : x10 = y10
                      · have H10 : Hid (x10 = y10) := h10
                        have a10 : (x10 != y10) = false := by simp [h10]
                        have b10 : (x10 == y10) = true := by simp [h10]
                        clear h10
                        by_cases h11 : x11 = y11
                        · have H11 : Hid (x11 = y11) := h11
                          have a11 : (x11 != y11) = false := by simp [h11]
                          have b11 : (x11 == y11) = true := by simp [h11]
                          clear h11
                          have HY : Hid (l = m) := HA.out H0.out rfl H2.out rfl rfl H5.out H6.out H7.out rfl H9.out H10.out H11.out
                          clear HA
                          go_wp2_with (first
                            | ((with_reducible refine at_loadG 55 ?_); refine step_loadG (by rfl) 55 _ rfl X 1 rfl (i6 l.tm) _ (BX.out.range 1 6) Try.underlying55 rfl (sizT _) ?_)
                            | ((with_reducible refine at_loadG 55 ?_); refine step_loadG (by rfl) 55 _ rfl (X + 1) 1 rfl (i6 m.tm) _ (BY.out.range 1 6) Try.underlying55 rfl (sizT _) ?_)
                            | ((with_reducible refine at_loadG 59 ?_); refine step_loadG (by rfl) 59 _ rfl X 8 rfl (i12 l.bk) _ (BX.out.range 8 12) Try.underlying59 rfl (sizB _) ?_)
                            | ((with_reducible refine at_loadG 59 ?_); refine step_loadG (by rfl) 59 _ rfl (X + 1) 8 rfl (i12 m.bk) _ (BY.out.range 8 12) Try.underlying59 rfl (sizB _) ?_)
                            | ((with_reducible refine at_loadG 61 ?_); refine step_loadG (by rfl) 61 _ rfl X 20 rfl (cs15 l.st l.su l.cs) _ (BX.out.range 20 15) Try.underlying61 rfl (sizC _ _ _) ?_)
                            | ((with_reducible refine at_loadG 61 ?_); refine step_loadG (by rfl) 61 _ rfl (X + 1) 20 rfl (cs15 m.st m.su m.cs) _ (BY.out.range 20 15) Try.underlying61 rfl (sizC _ _ _) ?_)
                            | ((with_reducible refine at_loadG 63 ?_); refine step_loadG (by rfl) 63 _ rfl X 38 rfl (i5 l.la) _ (BX.out.range 38 5) Try.underlying63 rfl (sizP _) ?_)
                            | ((with_reducible refine at_loadG 63 ?_); refine step_loadG (by rfl) 63 _ rfl (X + 1) 38 rfl (i5 m.la) _ (BY.out.range 38 5) Try.underlying63 rfl (sizP _) ?_)
                            | ((with_reducible refine at_bin .neq 55 ?_); refine step_neq (by rfl) 55 55 _ _ rfl (i6 l.tm) (i6 m.tm) rfl rfl gdr1 E1.out false rfl ?_)
                            | ((with_reducible refine at_bin .neq 59 ?_); refine step_neq (by rfl) 59 59 _ _ rfl (i12 l.bk) (i12 m.bk) rfl rfl gdr3 E3.out false rfl ?_)
                            | ((with_reducible refine at_bin .neq 61 ?_); refine step_neq (by rfl) 61 61 _ _ rfl (cs15 l.st l.su l.cs) (cs15 m.st m.su m.cs) rfl rfl gdr4 E4.out false rfl ?_)
                            | ((with_reducible refine at_bin .eql 63 ?_); refine step_eql (by rfl) 63 63 _ _ rfl (i5 l.la) (i5 m.la) rfl rfl gdr8 true E8.out ?_))
                          refine (PC.out _ BW.out).mono ?_
                          rintro e w3 ⟨rfl, nd, hw3⟩
                          subst hw3
                          have BX : Hid (Blk X 65 (lnL l (.slice pa pn pc)) (W0.drewN nd)) := BX.out.drewN nd
                          have BY : Hid (Blk (X + 1) 65 (lnL m (.slice qa qn qc)) (W0.drewN nd)) := BY.out.drewN nd
                          have BW : Hid (Below w.heap.size w (W0.drewN nd)) := below_drewN BW.out nd
                          go_wp2_with (first
                            | ((with_reducible refine at_loadG 55 ?_); refine step_loadG (by rfl) 55 _ rfl X 1 rfl (i6 l.tm) _ (BX.out.range 1 6) Try.underlying55 rfl (sizT _) ?_)
                            | ((with_reducible refine at_loadG 55 ?_); refine step_loadG (by rfl) 55 _ rfl (X + 1) 1 rfl (i6 m.tm) _ (BY.out.range 1 6) Try.underlying55 rfl (sizT _) ?_)
                            | ((with_reducible refine at_loadG 59 ?_); refine step_loadG (by rfl) 59 _ rfl X 8 rfl (i12 l.bk) _ (BX.out.range 8 12) Try.underlying59 rfl (sizB _) ?_)
                            | ((with_reducible refine at_loadG 59 ?_); refine step_loadG (by rfl) 59 _ rfl (X + 1) 8 rfl (i12 m.bk) _ (BY.out.range 8 12) Try.underlying59 rfl (sizB _) ?_)
                            | ((with_reducible refine at_loadG 61 ?_); refine step_loadG (by rfl) 61 _ rfl X 20 rfl (cs15 l.st l.su l.cs) _ (BX.out.range 20 15) Try.underlying61 rfl (sizC _ _ _) ?_)
                            | ((with_reducible refine at_loadG 61 ?_); refine step_loadG (by rfl) 61 _ rfl (X + 1) 20 rfl (cs15 m.st m.su m.cs) _ (BY.out.range 20 15) Try.underlying61 rfl (sizC _ _ _) ?_)
                            | ((with_reducible refine at_loadG 63 ?_); refine step_loadG (by rfl) 63 _ rfl X 38 rfl (i5 l.la) _ (BX.out.range 38 5) Try.underlying63 rfl (sizP _) ?_)
                            | ((with_reducible refine at_loadG 63 ?_); refine step_loadG (by rfl) 63 _ rfl (X + 1) 38 rfl (i5 m.la) _ (BY.out.range 38 5) Try.underlying63 rfl (sizP _) ?_)
                            | ((with_reducible refine at_bin .neq 55 ?_); refine step_neq (by rfl) 55 55 _ _ rfl (i6 l.tm) (i6 m.tm) rfl rfl gdr1 E1.out false rfl ?_)
                            | ((with_reducible refine at_bin .neq 59 ?_); refine step_neq (by rfl) 59 59 _ _ rfl (i12 l.bk) (i12 m.bk) rfl rfl gdr3 E3.out false rfl ?_)
                            | ((with_reducible refine at_bin .neq 61 ?_); refine step_neq (by rfl) 61 61 _ _ rfl (cs15 l.st l.su l.cs) (cs15 m.st m.su m.cs) rfl rfl gdr4 E4.out false rfl ?_)
                            | ((with_reducible refine at_bin .eql 63 ?_); refine step_eql (by rfl) 63 63 _ _ rfl (i5 l.la) (i5 m.la) rfl rfl gdr8 true E8.out ?_))
                          go_ret
                          exact ⟨AnsB.yes HY.out, BW.out⟩
                        · have HN : Hid (¬ l = m) := K11.out h11
                          have a11 : (x11 != y11) = true := by simp [h11]
                          have b11 : (x11 == y11) = false := by simp [h11]
                          clear h11 HA
                          go_wp2_with (first
                            | ((with_reducible refine at_loadG 55 ?_); refine step_loadG (by rfl) 55 _ rfl X 1 rfl (i6 l.tm) _ (BX.out.range 1 6) Try.underlying55 rfl (sizT _) ?_)
                            | ((with_reducible refine at_loadG 55 ?_); refine step_loadG (by rfl) 55 _ rfl (X + 1) 1 rfl (i6 m.tm) _ (BY.out.range 1 6) Try.underlying55 rfl (sizT _) ?_)
                            | ((with_reducible refine at_loadG 59 ?_); refine step_loadG (by rfl) 59 _ rfl X 8 rfl (i12 l.bk) _ (BX.out.range 8 12) Try.underlying59 rfl (sizB _) ?_)
                            | ((with_reducible refine at_loadG 59 ?_); refine step_loadG (by rfl) 59 _ rfl (X + 1) 8 rfl (i12 m.bk) _ (BY.out.range 8 12) Try.underlying59 rfl (sizB _) ?_)
                            | ((with_reducible refine at_loadG 61 ?_); refine step_loadG (by rfl) 61 _ rfl X 20 rfl (cs15 l.st l.su l.cs) _ (BX.out.range 20 15) Try.underlying61 rfl (sizC _ _ _) ?_)
                            | ((with_reducible refine at_loadG 61 ?_); refine step_loadG (by rfl) 61 _ rfl (X + 1) 20 rfl (cs15 m.st m.su m.cs) _ (BY.out.range 20 15) Try.underlying61 rfl (sizC _ _ _) ?_)
                            | ((with_reducible refine at_loadG 63 ?_); refine step_loadG (by rfl) 63 _ rfl X 38 rfl (i5 l.la) _ (BX.out.range 38 5) Try.underlying63 rfl (sizP _) ?_)
                            | ((with_reducible refine at_loadG 63 ?_); refine step_loadG (by rfl) 63 _ rfl (X + 1) 38 rfl (i5 m.la) _ (BY.out.range 38 5) Try.underlying63 rfl (sizP _) ?_)
                            | ((with_reducible refine at_bin .neq 55 ?_); refine step_neq (by rfl) 55 55 _ _ rfl (i6 l.tm) (i6 m.tm) rfl rfl gdr1 E1.out false rfl ?_)
                            | ((with_reducible refine at_bin .neq 59 ?_); refine step_neq (by rfl) 59 59 _ _ rfl (i12 l.bk) (i12 m.bk) rfl rfl gdr3 E3.out false rfl ?_)
                            | ((with_reducible refine at_bin .neq 61 ?_); refine step_neq (by rfl) 61 61 _ _ rfl (cs15 l.st l.su l.cs) (cs15 m.st m.su m.cs) rfl rfl gdr4 E4.out false rfl ?_)
                            | ((with_reducible refine at_bin .eql 63 ?_); refine step_eql (by rfl) 63 63 _ _ rfl (i5 l.la) (i5 m.la) rfl rfl gdr8 true E8.out ?_))
                          refine (PC.out _ BW.out).mono ?_
                          rintro e w3 ⟨rfl, nd, hw3⟩
                          subst hw3
                          have BX : Hid (Blk X 65 (lnL l (.slice pa pn pc)) (W0.drewN nd)) := BX.out.drewN nd
                          have BY : Hid (Blk (X + 1) 65 (lnL m (.slice qa qn qc)) (W0.drewN nd)) := BY.out.drewN nd
                          have BW : Hid (Below w.heap.size w (W0.drewN nd)) := below_drewN BW.out nd
                          go_wp2_with (first
                            | ((with_reducible refine at_loadG 55 ?_); refine step_loadG (by rfl) 55 _ rfl X 1 rfl (i6 l.tm) _ (BX.out.range 1 6) Try.underlying55 rfl (sizT _) ?_)
                            | ((with_reducible refine at_loadG 55 ?_); refine step_loadG (by rfl) 55 _ rfl (X + 1) 1 rfl (i6 m.tm) _ (BY.out.range 1 6) Try.underlying55 rfl (sizT _) ?_)
                            | ((with_reducible refine at_loadG 59 ?_); refine step_loadG (by rfl) 59 _ rfl X 8 rfl (i12 l.bk) _ (BX.out.range 8 12) Try.underlying59 rfl (sizB _) ?_)
                            | ((with_reducible refine at_loadG 59 ?_); refine step_loadG (by rfl) 59 _ rfl (X + 1) 8 rfl (i12 m.bk) _ (BY.out.range 8 12) Try.underlying59 rfl (sizB _) ?_)
                            | ((with_reducible refine at_loadG 61 ?_); refine step_loadG (by rfl) 61 _ rfl X 20 rfl (cs15 l.st l.su l.cs) _ (BX.out.range 20 15) Try.underlying61 rfl (sizC _ _ _) ?_)
                            | ((with_reducible refine at_loadG 61 ?_); refine step_loadG (by rfl) 61 _ rfl (X + 1) 20 rfl (cs15 m.st m.su m.cs) _ (BY.out.range 20 15) Try.underlying61 rfl (sizC _ _ _) ?_)
                            | ((with_reducible refine at_loadG 63 ?_); refine step_loadG (by rfl) 63 _ rfl X 38 rfl (i5 l.la) _ (BX.out.range 38 5) Try.underlying63 rfl (sizP _) ?_)
                            | ((with_reducible refine at_loadG 63 ?_); refine step_loadG (by rfl) 63 _ rfl (X + 1) 38 rfl (i5 m.la) _ (BY.out.range 38 5) Try.underlying63 rfl (sizP _) ?_)
                            | ((with_reducible refine at_bin .neq 55 ?_); refine step_neq (by rfl) 55 55 _ _ rfl (i6 l.tm) (i6 m.tm) rfl rfl gdr1 E1.out false rfl ?_)
                            | ((with_reducible refine at_bin .neq 59 ?_); refine step_neq (by rfl) 59 59 _ _ rfl (i12 l.bk) (i12 m.bk) rfl rfl gdr3 E3.out false rfl ?_)
                            | ((with_reducible refine at_bin .neq 61 ?_); refine step_neq (by rfl) 61 61 _ _ rfl (cs15 l.st l.su l.cs) (cs15 m.st m.su m.cs) rfl rfl gdr4 E4.out false rfl ?_)
                            | ((with_reducible refine at_bin .eql 63 ?_); refine step_eql (by rfl) 63 63 _ _ rfl (i5 l.la) (i5 m.la) rfl rfl gdr8 true E8.out ?_))
                          go_ret
                          exact ⟨AnsB.no HN.out, BW.out⟩
                      · have HN : Hid (¬ l = m) := K10.out h10
                        have a10 : (x10 != y10) = true := by simp [h10]
                        have b10 : (x10 == y10) = false := by simp [h10]
                        clear h10 HA
                        go_wp2_with (first
                          | ((with_reducible refine at_loadG 55 ?_); refine step_loadG (by rfl) 55 _ rfl X 1 rfl (i6 l.tm) _ (BX.out.range 1 6) Try.underlying55 rfl (sizT _) ?_)
                          | ((with_reducible refine at_loadG 55 ?_); refine step_loadG (by rfl) 55 _ rfl (X + 1) 1 rfl (i6 m.tm) _ (BY.out.range 1 6) Try.underlying55 rfl (sizT _) ?_)
                          | ((with_reducible refine at_loadG 59 ?_); refine step_loadG (by rfl) 59 _ rfl X 8 rfl (i12 l.bk) _ (BX.out.range 8 12) Try.underlying59 rfl (sizB _) ?_)
                          | ((with_reducible refine at_loadG 59 ?_); refine step_loadG (by rfl) 59 _ rfl (X + 1) 8 rfl (i12 m.bk) _ (BY.out.range 8 12) Try.underlying59 rfl (sizB _) ?_)
                          | ((with_reducible refine at_loadG 61 ?_); refine step_loadG (by rfl) 61 _ rfl X 20 rfl (cs15 l.st l.su l.cs) _ (BX.out.range 20 15) Try.underlying61 rfl (sizC _ _ _) ?_)
                          | ((with_reducible refine at_loadG 61 ?_); refine step_loadG (by rfl) 61 _ rfl (X + 1) 20 rfl (cs15 m.st m.su m.cs) _ (BY.out.range 20 15) Try.underlying61 rfl (sizC _ _ _) ?_)
                          | ((with_reducible refine at_loadG 63 ?_); refine step_loadG (by rfl) 63 _ rfl X 38 rfl (i5 l.la) _ (BX.out.range 38 5) Try.underlying63 rfl (sizP _) ?_)
                          | ((with_reducible refine at_loadG 63 ?_); refine step_loadG (by rfl) 63 _ rfl (X + 1) 38 rfl (i5 m.la) _ (BY.out.range 38 5) Try.underlying63 rfl (sizP _) ?_)
                          | ((with_reducible refine at_bin .neq 55 ?_); refine step_neq (by rfl) 55 55 _ _ rfl (i6 l.tm) (i6 m.tm) rfl rfl gdr1 E1.out false rfl ?_)
                          | ((with_reducible refine at_bin .neq 59 ?_); refine step_neq (by rfl) 59 59 _ _ rfl (i12 l.bk) (i12 m.bk) rfl rfl gdr3 E3.out false rfl ?_)
                          | ((with_reducible refine at_bin .neq 61 ?_); refine step_neq (by rfl) 61 61 _ _ rfl (cs15 l.st l.su l.cs) (cs15 m.st m.su m.cs) rfl rfl gdr4 E4.out false rfl ?_)
                          | ((with_reducible refine at_bin .eql 63 ?_); refine step_eql (by rfl) 63 63 _ _ rfl (i5 l.la) (i5 m.la) rfl rfl gdr8 true E8.out ?_))
                        refine (PC.out _ BW.out).mono ?_
                        rintro e w3 ⟨rfl, nd, hw3⟩
                        subst hw3
                        have BX : Hid (Blk X 65 (lnL l (.slice pa pn pc)) (W0.drewN nd)) := BX.out.drewN nd
                        have BY : Hid (Blk (X + 1) 65 (lnL m (.slice qa qn qc)) (W0.drewN nd)) := BY.out.drewN nd
                        have BW : Hid (Below w.heap.size w (W0.drewN nd)) := below_drewN BW.out nd
                        go_wp2_with (first
                          | ((with_reducible refine at_loadG 55 ?_); refine step_loadG (by rfl) 55 _ rfl X 1 rfl (i6 l.tm) _ (BX.out.range 1 6) Try.underlying55 rfl (sizT _) ?_)
                          | ((with_reducible refine at_loadG 55 ?_); refine step_loadG (by rfl) 55 _ rfl (X + 1) 1 rfl (i6 m.tm) _ (BY.out.range 1 6) Try.underlying55 rfl (sizT _) ?_)
                          | ((with_reducible refine at_loadG 59 ?_); refine step_loadG (by rfl) 59 _ rfl X 8 rfl (i12 l.bk) _ (BX.out.range 8 12) Try.underlying59 rfl (sizB _) ?_)
                          | ((with_reducible refine at_loadG 59 ?_); refine step_loadG (by rfl) 59 _ rfl (X + 1) 8 rfl (i12 m.bk) _ (BY.out.range 8 12) Try.underlying59 rfl (sizB _) ?_)
                          | ((with_reducible refine at_loadG 61 ?_); refine step_loadG (by rfl) 61 _ rfl X 20 rfl (cs15 l.st l.su l.cs) _ (BX.out.range 20 15) Try.underlying61 rfl (sizC _ _ _) ?_)
                          | ((with_reducible refine at_loadG 61 ?_); refine step_loadG (by rfl) 61 _ rfl (X + 1) 20 rfl (cs15 m.st m.su m.cs) _ (BY.out.range 20 15) Try.underlying61 rfl (sizC _ _ _) ?_)
                          | ((with_reducible refine at_loadG 63 ?_); refine step_loadG (by rfl) 63 _ rfl X 38 rfl (i5 l.la) _ (BX.out.range 38 5) Try.underlying63 rfl (sizP _) ?_)
                          | ((with_reducible refine at_loadG 63 ?_); refine step_loadG (by rfl) 63 _ rfl (X + 1) 38 rfl (i5 m.la) _ (BY.out.range 38 5) Try.underlying63 rfl (sizP _) ?_)
                          | ((with_reducible refine at_bin .neq 55 ?_); refine step_neq (by rfl) 55 55 _ _ rfl (i6 l.tm) (i6 m.tm) rfl rfl gdr1 E1.out false rfl ?_)
                          | ((with_reducible refine at_bin .neq 59 ?_); refine step_neq (by rfl) 59 59 _ _ rfl (i12 l.bk) (i12 m.bk) rfl rfl gdr3 E3.out false rfl ?_)
                          | ((with_reducible refine at_bin .neq 61 ?_); refine step_neq (by rfl) 61 61 _ _ rfl (cs15 l.st l.su l.cs) (cs15 m.st m.su m.cs) rfl rfl gdr4 E4.out false rfl ?_)
                          | ((with_reducible refine at_bin .eql 63 ?_); refine step_eql (by rfl) 63 63 _ _ rfl (i5 l.la) (i5 m.la) rfl rfl gdr8 true E8.out ?_))
                        go_ret
                        exact ⟨AnsB.no HN.out, BW.out⟩
                    · have HN : Hid (¬ l = m) := K9.out h9
                      have a9 : (x9 != y9) = true := by simp [h9]
                      have b9 : (x9 == y9) = false := by simp [h9]
                      clear h9 HA
                      go_wp2_with (first
                        | ((with_reducible refine at_loadG 55 ?_); refine step_loadG (by rfl) 55 _ rfl X 1 rfl (i6 l.tm) _ (BX.out.range 1 6) Try.underlying55 rfl (sizT _) ?_)
                        | ((with_reducible refine at_loadG 55 ?_); refine step_loadG (by rfl) 55 _ rfl (X + 1) 1 rfl (i6 m.tm) _ (BY.out.range 1 6) Try.underlying55 rfl (sizT _) ?_)
                        | ((with_reducible refine at_loadG 59 ?_); refine step_loadG (by rfl) 59 _ rfl X 8 rfl (i12 l.bk) _ (BX.out.range 8 12) Try.underlying59 rfl (sizB _) ?_)
                        | ((with_reducible refine at_loadG 59 ?_); refine step_loadG (by rfl) 59 _ rfl (X + 1) 8 rfl (i12 m.bk) _ (BY.out.range 8 12) Try.underlying59 rfl (sizB _) ?_)
                        | ((with_reducible refine at_loadG 61 ?_); refine step_loadG (by rfl) 61 _ rfl X 20 rfl (cs15 l.st l.su l.cs) _ (BX.out.range 20 15) Try.underlying61 rfl (sizC _ _ _) ?_)
                        | ((with_reducible refine at_loadG 61 ?_); refine step_loadG (by rfl) 61 _ rfl (X + 1) 20 rfl (cs15 m.st m.su m.cs) _ (BY.out.range 20 15) Try.underlying61 rfl (sizC _ _ _) ?_)
                        | ((with_reducible refine at_loadG 63 ?_); refine step_loadG (by rfl) 63 _ rfl X 38 rfl (i5 l.la) _ (BX.out.range 38 5) Try.underlying63 rfl (sizP _) ?_)
                        | ((with_reducible refine at_loadG 63 ?_); refine step_loadG (by rfl) 63 _ rfl (X + 1) 38 rfl (i5 m.la) _ (BY.out.range 38 5) Try.underlying63 rfl (sizP _) ?_)
                        | ((with_reducible refine at_bin .neq 55 ?_); refine step_neq (by rfl) 55 55 _ _ rfl (i6 l.tm) (i6 m.tm) rfl rfl gdr1 E1.out false rfl ?_)
                        | ((with_reducible refine at_bin .neq 59 ?_); refine step_neq (by rfl) 59 59 _ _ rfl (i12 l.bk) (i12 m.bk) rfl rfl gdr3 E3.out false rfl ?_)
                        | ((with_reducible refine at_bin .neq 61 ?_); refine step_neq (by rfl) 61 61 _ _ rfl (cs15 l.st l.su l.cs) (cs15 m.st m.su m.cs) rfl rfl gdr4 E4.out false rfl ?_)
                        | ((with_reducible refine at_bin .eql 63 ?_); refine step_eql (by rfl) 63 63 _ _ rfl (i5 l.la) (i5 m.la) rfl rfl gdr8 true E8.out ?_))
                      refine (PC.out _ BW.out).mono ?_
                      rintro e w3 ⟨rfl, nd, hw3⟩
                      subst hw3
                      have BX : Hid (Blk X 65 (lnL l (.slice pa pn pc)) (W0.drewN nd)) := BX.out.drewN nd
                      have BY : Hid (Blk (X + 1) 65 (lnL m (.slice qa qn qc)) (W0.drewN nd)) := BY.out.drewN nd
                      have BW : Hid (Below w.heap.size w (W0.drewN nd)) := below_drewN BW.out nd
                      go_wp2_with (first
                        | ((with_reducible refine at_loadG 55 ?_); refine step_loadG (by rfl) 55 _ rfl X 1 rfl (i6 l.tm) _ (BX.out.range 1 6) Try.underlying55 rfl (sizT _) ?_)
                        | ((with_reducible refine at_loadG 55 ?_); refine step_loadG (by rfl) 55 _ rfl (X + 1) 1 rfl (i6 m.tm) _ (BY.out.range 1 6) Try.underlying55 rfl (sizT _) ?_)
                        | ((with_reducible refine at_loadG 59 ?_); refine step_loadG (by rfl) 59 _ rfl X 8 rfl (i12 l.bk) _ (BX.out.range 8 12) Try.underlying59 rfl (sizB _) ?_)
                        | ((with_reducible refine at_loadG 59 ?_); refine step_loadG (by rfl) 59 _ rfl (X + 1) 8 rfl (i12 m.bk) _ (BY.out.range 8 12) Try.underlying59 rfl (sizB _) ?_)
                        | ((with_reducible refine at_loadG 61 ?_); refine step_loadG (by rfl) 61 _ rfl X 20 rfl (cs15 l.st l.su l.cs) _ (BX.out.range 20 15) Try.underlying61 rfl (sizC _ _ _) ?_)
                        | ((with_reducible refine at_loadG 61 ?_); refine step_loadG (by rfl) 61 _ rfl (X + 1) 20 rfl (cs15 m.st m.su m.cs) _ (BY.out.range 20 15) Try.underlying61 rfl (sizC _ _ _) ?_)
                        | ((with_reducible refine at_loadG 63 ?_); refine step_loadG (by rfl) 63 _ rfl X 38 rfl (i5 l.la) _ (BX.out.range 38 5) Try.underlying63 rfl (sizP _) ?_)
                        | ((with_reducible refine at_loadG 63 ?_); refine step_loadG (by rfl) 63 _ rfl (X + 1) 38 rfl (i5 m.la) _ (BY.out.range 38 5) Try.underlying63 rfl (sizP _) ?_)
                        | ((with_reducible refine at_bin .neq 55 ?_); refine step_neq (by rfl) 55 55 _ _ rfl (i6 l.tm) (i6 m.tm) rfl rfl gdr1 E1.out false rfl ?_)
                        | ((with_reducible refine at_bin .neq 59 ?_); refine step_neq (by rfl) 59 59 _ _ rfl (i12 l.bk) (i12 m.bk) rfl rfl gdr3 E3.out false rfl ?_)
                        | ((with_reducible refine at_bin .neq 61 ?_); refine step_neq (by rfl) 61 61 _ _ rfl (cs15 l.st l.su l.cs) (cs15 m.st m.su m.cs) rfl rfl gdr4 E4.out false rfl ?_)
                        | ((with_reducible refine at_bin .eql 63 ?_); refine step_eql (by rfl) 63 63 _ _ rfl (i5 l.la) (i5 m.la) rfl rfl gdr8 true E8.out ?_))
                      go_ret
                      exact ⟨AnsB.no HN.out, BW.out⟩
                  | false =>
                    have HN : Hid (¬ l = m) := N8.out rfl
                    clear HA
                    go_wp2_with (first
                      | ((with_reducible refine at_loadG 55 ?_); refine step_loadG (by rfl) 55 _ rfl X 1 rfl (i6 l.tm) _ (BX.out.range 1 6) Try.underlying55 rfl (sizT _) ?_)
                      | ((with_reducible refine at_loadG 55 ?_); refine step_loadG (by rfl) 55 _ rfl (X + 1) 1 rfl (i6 m.tm) _ (BY.out.range 1 6) Try.underlying55 rfl (sizT _) ?_)
                      | ((with_reducible refine at_loadG 59 ?_); refine step_loadG (by rfl) 59 _ rfl X 8 rfl (i12 l.bk) _ (BX.out.range 8 12) Try.underlying59 rfl (sizB _) ?_)
                      | ((with_reducible refine at_loadG 59 ?_); refine step_loadG (by rfl) 59 _ rfl (X + 1) 8 rfl (i12 m.bk) _ (BY.out.range 8 12) Try.underlying59 rfl (sizB _) ?_)
                      | ((with_reducible refine at_loadG 61 ?_); refine step_loadG (by rfl) 61 _ rfl X 20 rfl (cs15 l.st l.su l.cs) _ (BX.out.range 20 15) Try.underlying61 rfl (sizC _ _ _) ?_)
                      | ((with_reducible refine at_loadG 61 ?_); refine step_loadG (by rfl) 61 _ rfl (X + 1) 20 rfl (cs15 m.st m.su m.cs) _ (BY.out.range 20 15) Try.underlying61 rfl (sizC _ _ _) ?_)
                      | ((with_reducible refine at_loadG 63 ?_); refine step_loadG (by rfl) 63 _ rfl X 38 rfl (i5 l.la) _ (BX.out.range 38 5) Try.underlying63 rfl (sizP _) ?_)
                      | ((with_reducible refine at_loadG 63 ?_); refine step_loadG (by rfl) 63 _ rfl (X + 1) 38 rfl (i5 m.la) _ (BY.out.range 38 5) Try.underlying63 rfl (sizP _) ?_)
                      | ((with_reducible refine at_bin .neq 55 ?_); refine step_neq (by rfl) 55 55 _ _ rfl (i6 l.tm) (i6 m.tm) rfl rfl gdr1 E1.out false rfl ?_)
                      | ((with_reducible refine at_bin .neq 59 ?_); refine step_neq (by rfl) 59 59 _ _ rfl (i12 l.bk) (i12 m.bk) rfl rfl gdr3 E3.out false rfl ?_)
                      | ((with_reducible refine at_bin .neq 61 ?_); refine step_neq (by rfl) 61 61 _ _ rfl (cs15 l.st l.su l.cs) (cs15 m.st m.su m.cs) rfl rfl gdr4 E4.out false rfl ?_)
                      | ((with_reducible refine at_bin .eql 63 ?_); refine step_eql (by rfl) 63 63 _ _ rfl (i5 l.la) (i5 m.la) rfl rfl gdr8 false E8.out ?_))
                    refine (PC.out _ BW.out).mono ?_
                    rintro e w3 ⟨rfl, nd, hw3⟩
                    subst hw3
                    have BX : Hid (Blk X 65 (lnL l (.slice pa pn pc)) (W0.drewN nd)) := BX.out.drewN nd
                    have BY : Hid (Blk (X + 1) 65 (lnL m (.slice qa qn qc)) (W0.drewN nd)) := BY.out.drewN nd
                    have BW : Hid (Below w.heap.size w (W0.drewN nd)) := below_drewN BW.out nd
                    go_wp2_with (first
                      | ((with_reducible refine at_loadG 55 ?_); refine step_loadG (by rfl) 55 _ rfl X 1 rfl (i6 l.tm) _ (BX.out.range 1 6) Try.underlying55 rfl (sizT _) ?_)
                      | ((with_reducible refine at_loadG 55 ?_); refine step_loadG (by rfl) 55 _ rfl (X + 1) 1 rfl (i6 m.tm) _ (BY.out.range 1 6) Try.underlying55 rfl (sizT _) ?_)
                      | ((with_reducible refine at_loadG 59 ?_); refine step_loadG (by rfl) 59 _ rfl X 8 rfl (i12 l.bk) _ (BX.out.range 8 12) Try.underlying59 rfl (sizB _) ?_)
                      | ((with_reducible refine at_loadG 59 ?_); refine step_loadG (by rfl) 59 _ rfl (X + 1) 8 rfl (i12 m.bk) _ (BY.out.range 8 12) Try.underlying59 rfl (sizB _) ?_)
                      | ((with_reducible refine at_loadG 61 ?_); refine step_loadG (by rfl) 61 _ rfl X 20 rfl (cs15 l.st l.su l.cs) _ (BX.out.range 20 15) Try.underlying61 rfl (sizC _ _ _) ?_)
                      | ((with_reducible refine at_loadG 61 ?_); refine step_loadG (by rfl) 61 _ rfl (X + 1) 20 rfl (cs15 m.st m.su m.cs) _ (BY.out.range 20 15) Try.underlying61 rfl (sizC _ _ _) ?_)
                      | ((with_reducible refine at_loadG 63 ?_); refine step_loadG (by rfl) 63 _ rfl X 38 rfl (i5 l.la) _ (BX.out.range 38 5) Try.underlying63 rfl (sizP _) ?_)
                      | ((with_reducible refine at_loadG 63 ?_); refine step_loadG (by rfl) 63 _ rfl (X + 1) 38 rfl (i5 m.la) _ (BY.out.range 38 5) Try.underlying63 rfl (sizP _) ?_)
                      | ((with_reducible refine at_bin .neq 55 ?_); refine step_neq (by rfl) 55 55 _ _ rfl (i6 l.tm) (i6 m.tm) rfl rfl gdr1 E1.out false rfl ?_)
                      | ((with_reducible refine at_bin .neq 59 ?_); refine step_neq (by rfl) 59 59 _ _ rfl (i12 l.bk) (i12 m.bk) rfl rfl gdr3 E3.out false rfl ?_)
                      | ((with_reducible refine at_bin .neq 61 ?_); refine step_neq (by rfl) 61 61 _ _ rfl (cs15 l.st l.su l.cs) (cs15 m.st m.su m.cs) rfl rfl gdr4 E4.out false rfl ?_)
                      | ((with_reducible refine at_bin .eql 63 ?_); refine step_eql (by rfl) 63 63 _ _ rfl (i5 l.la) (i5 m.la) rfl rfl gdr8 false E8.out ?_))
                    go_ret
                    exact ⟨AnsB.no HN.out, BW.out⟩
                · have HN : Hid (¬ l = m) := K7.out h7
                  have a7 : (x7 != y7) = true := by simp [h7]
                  have b7 : (x7 == y7) = false := by simp [h7]
                  clear h7 HA
                  go_wp2_with (first
                    | ((with_reducible refine at_loadG 55 ?_); refine step_loadG (by rfl) 55 _ rfl X 1 rfl (i6 l.tm) _ (BX.out.range 1 6) Try.underlying55 rfl (sizT _) ?_)
                    | ((with_reducible refine at_loadG 55 ?_); refine step_loadG (by rfl) 55 _ rfl (X + 1) 1 rfl (i6 m.tm) _ (BY.out.range 1 6) Try.underlying55 rfl (sizT _) ?_)
                    | ((with_reducible refine at_loadG 59 ?_); refine step_loadG (by rfl) 59 _ rfl X 8 rfl (i12 l.bk) _ (BX.out.range 8 12) Try.underlying59 rfl (sizB _) ?_)
                    | ((with_reducible refine at_loadG 59 ?_); refine step_loadG (by rfl) 59 _ rfl (X + 1) 8 rfl (i12 m.bk) _ (BY.out.range 8 12) Try.underlying59 rfl (sizB _) ?_)
                    | ((with_reducible refine at_loadG 61 ?_); refine step_loadG (by rfl) 61 _ rfl X 20 rfl (cs15 l.st l.su l.cs) _ (BX.out.range 20 15) Try.underlying61 rfl (sizC _ _ _) ?_)
                    | ((with_reducible refine at_loadG 61 ?_); refine step_loadG (by rfl) 61 _ rfl (X + 1) 20 rfl (cs15 m.st m.su m.cs) _ (BY.out.range 20 15) Try.underlying61 rfl (sizC _ _ _) ?_)
                    | ((with_reducible refine at_loadG 63 ?_); refine step_loadG (by rfl) 63 _ rfl X 38 rfl (i5 l.la) _ (BX.out.range 38 5) Try.underlying63 rfl (sizP _) ?_)
                    | ((with_reducible refine at_loadG 63 ?_); refine step_loadG (by rfl) 63 _ rfl (X + 1) 38 rfl (i5 m.la) _ (BY.out.range 38 5) Try.underlying63 rfl (sizP _) ?_)
                    | ((with_reducible refine at_bin .neq 55 ?_); refine step_neq (by rfl) 55 55 _ _ rfl (i6 l.tm) (i6 m.tm) rfl rfl gdr1 E1.out false rfl ?_)
                    | ((with_reducible refine at_bin .neq 59 ?_); refine step_neq (by rfl) 59 59 _ _ rfl (i12 l.bk) (i12 m.bk) rfl rfl gdr3 E3.out false rfl ?_)
                    | ((with_reducible refine at_bin .neq 61 ?_); refine step_neq (by rfl) 61 61 _ _ rfl (cs15 l.st l.su l.cs) (cs15 m.st m.su m.cs) rfl rfl gdr4 E4.out false rfl ?_))
                  refine (PC.out _ BW.out).mono ?_
                  rintro e w3 ⟨rfl, nd, hw3⟩
                  subst hw3
                  have BX : Hid (Blk X 65 (lnL l (.slice pa pn pc)) (W0.drewN nd)) := BX.out.drewN nd
                  have BY : Hid (Blk (X + 1) 65 (lnL m (.slice qa qn qc)) (W0.drewN nd)) := BY.out.drewN nd
                  have BW : Hid (Below w.heap.size w (W0.drewN nd)) := below_drewN BW.out nd
                  go_wp2_with (first
                    | ((with_reducible refine at_loadG 55 ?_); refine step_loadG (by rfl) 55 _ rfl X 1 rfl (i6 l.tm) _ (BX.out.range 1 6) Try.underlying55 rfl (sizT _) ?_)
                    | ((with_reducible refine at_loadG 55 ?_); refine step_loadG (by rfl) 55 _ rfl (X + 1) 1 rfl (i6 m.tm) _ (BY.out.range 1 6) Try.underlying55 rfl (sizT _) ?_)
                    | ((with_reducible refine at_loadG 59 ?_); refine step_loadG (by rfl) 59 _ rfl X 8 rfl (i12 l.bk) _ (BX.out.range 8 12) Try.underlying59 rfl (sizB _) ?_)
                    | ((with_reducible refine at_loadG 59 ?_); refine step_loadG (by rfl) 59 _ rfl (X + 1) 8 rfl (i12 m.bk) _ (BY.out.range 8 12) Try.underlying59 rfl (sizB _) ?_)
                    | ((with_reducible refine at_loadG 61 ?_); refine step_loadG (by rfl) 61 _ rfl X 20 rfl (cs15 l.st l.su l.cs) _ (BX.out.range 20 15) Try.underlying61 rfl (sizC _ _ _) ?_)
                    | ((with_reducible refine at_loadG 61 ?_); refine step_loadG (by rfl) 61 _ rfl (X + 1) 20 rfl (cs15 m.st m.su m.cs) _ (BY.out.range 20 15) Try.underlying61 rfl (sizC _ _ _) ?_)
                    | ((with_reducible refine at_loadG 63 ?_); refine step_loadG (by rfl) 63 _ rfl X 38 rfl (i5 l.la) _ (BX.out.range 38 5) Try.underlying63 rfl (sizP _) ?_)
                    | ((with_reducible refine at_loadG 63 ?_); refine step_loadG (by rfl) 63 _ rfl (X + 1) 38 rfl (i5 m.la) _ (BY.out.range 38 5) Try.underlying63 rfl (sizP _) ?_)
                    | ((with_reducible refine at_bin .neq 55 ?_); refine step_neq (by rfl) 55 55 _ _ rfl (i6 l.tm) (i6 m.tm) rfl rfl gdr1 E1.out false rfl ?_)
                    | ((with_reducible refine at_bin .neq 59 ?_); refine step_neq (by rfl) 59 59 _ _ rfl (i12 l.bk) (i12 m.bk) rfl rfl gdr3 E3.out false rfl ?_)
                    | ((with_reducible refine at_bin .neq 61 ?_); refine step_neq (by rfl) 61 61 _ _ rfl (cs15 l.st l.su l.cs) (cs15 m.st m.su m.cs) rfl rfl gdr4 E4.out false rfl ?_))
                  go_ret
                  exact ⟨AnsB.no HN.out, BW.out⟩
              · have HN : Hid (¬ l = m) := K6.out h6
                have a6 : (x6 != y6) = true := by simp [h6]
                have b6 : (x6 == y6) = false := by simp [h6]
                clear h6 HA
                go_wp2_with (first
                  | ((with_reducible refine at_loadG 55 ?_); refine step_loadG (by rfl) 55 _ rfl X 1 rfl (i6 l.tm) _ (BX.out.range 1 6) Try.underlying55 rfl (sizT _) ?_)
                  | ((with_reducible refine at_loadG 55 ?_); refine step_loadG (by rfl) 55 _ rfl (X + 1) 1 rfl (i6 m.tm) _ (BY.out.range 1 6) Try.underlying55 rfl (sizT _) ?_)
                  | ((with_reducible refine at_loadG 59 ?_); refine step_loadG (by rfl) 59 _ rfl X 8 rfl (i12 l.bk) _ (BX.out.range 8 12) Try.underlying59 rfl (sizB _) ?_)
                  | ((with_reducible refine at_loadG 59 ?_); refine step_loadG (by rfl) 59 _ rfl (X + 1) 8 rfl (i12 m.bk) _ (BY.out.range 8 12) Try.underlying59 rfl (sizB _) ?_)
                  | ((with_reducible refine at_loadG 61 ?_); refine step_loadG (by rfl) 61 _ rfl X 20 rfl (cs15 l.st l.su l.cs) _ (BX.out.range 20 15) Try.underlying61 rfl (sizC _ _ _) ?_)
                  | ((with_reducible refine at_loadG 61 ?_); refine step_loadG (by rfl) 61 _ rfl (X + 1) 20 rfl (cs15 m.st m.su m.cs) _ (BY.out.range 20 15) Try.underlying61 rfl (sizC _ _ _) ?_)
                  | ((with_reducible refine at_loadG 63 ?_); refine step_loadG (by rfl) 63 _ rfl X 38 rfl (i5 l.la) _ (BX.out.range 38 5) Try.underlying63 rfl (sizP _) ?_)
                  | ((with_reducible refine at_loadG 63 ?_); refine step_loadG (by rfl) 63 _ rfl (X + 1) 38 rfl (i5 m.la) _ (BY.out.range 38 5) Try.underlying63 rfl (sizP _) ?_)
                  | ((with_reducible refine at_bin .neq 55 ?_); refine step_neq (by rfl) 55 55 _ _ rfl (i6 l.tm) (i6 m.tm) rfl rfl gdr1 E1.out false rfl ?_)
                  | ((with_reducible refine at_bin .neq 59 ?_); refine step_neq (by rfl) 59 59 _ _ rfl (i12 l.bk) (i12 m.bk) rfl rfl gdr3 E3.out false rfl ?_)
                  | ((with_reducible refine at_bin .neq 61 ?_); refine step_neq (by rfl) 61 61 _ _ rfl (cs15 l.st l.su l.cs) (cs15 m.st m.su m.cs) rfl rfl gdr4 E4.out false rfl ?_))
                refine (PC.out _ BW.out).mono ?_
                rintro e w3 ⟨rfl, nd, hw3⟩
                subst hw3
                have BX : Hid (Blk X 65 (lnL l (.slice pa pn pc)) (W0.drewN nd)) := BX.out.drewN nd
                have BY : Hid (Blk (X + 1) 65 (lnL m (.slice qa qn qc)) (W0.drewN nd)) := BY.out.drewN nd
                have BW : Hid (Below w.heap.size w (W0.drewN nd)) := below_drewN BW.out nd
                go_wp2_with (first
                  | ((with_reducible refine at_loadG 55 ?_); refine step_loadG (by rfl) 55 _ rfl X 1 rfl (i6 l.tm) _ (BX.out.range 1 6) Try.underlying55 rfl (sizT _) ?_)
                  | ((with_reducible refine at_loadG 55 ?_); refine step_loadG (by rfl) 55 _ rfl (X + 1) 1 rfl (i6 m.tm) _ (BY.out.range 1 6) Try.underlying55 rfl (sizT _) ?_)
                  | ((with_reducible refine at_loadG 59 ?_); refine step_loadG (by rfl) 59 _ rfl X 8 rfl (i12 l.bk) _ (BX.out.range 8 12) Try.underlying59 rfl (sizB _) ?_)
                  | ((with_reducible refine at_loadG 59 ?_); refine step_loadG (by rfl) 59 _ rfl (X + 1) 8 rfl (i12 m.bk) _ (BY.out.range 8 12) Try.underlying59 rfl (sizB _) ?_)
                  | ((with_reducible refine at_loadG 61 ?_); refine step_loadG (by rfl) 61 _ rfl X 20 rfl (cs15 l.st l.su l.cs) _ (BX.out.range 20 15) Try.underlying61 rfl (sizC _ _ _) ?_)
                  | ((with_reducible refine at_loadG 61 ?_); refine step_loadG (by rfl) 61 _ rfl (X + 1) 20 rfl (cs15 m.st m.su m.cs) _ (BY.out.range 20 15) Try.underlying61 rfl (sizC _ _ _) ?_)
                  | ((with_reducible refine at_loadG 63 ?_); refine step_loadG (by rfl) 63 _ rfl X 38 rfl (i5 l.la) _ (BX.out.range 38 5) Try.underlying63 rfl (sizP _) ?_)
                  | ((with_reducible refine at_loadG 63 ?_); refine step_loadG (by rfl) 63 _ rfl (X + 1) 38 rfl (i5 m.la) _ (BY.out.range 38 5) Try.underlying63 rfl (sizP _) ?_)
                  | ((with_reducible refine at_bin .neq 55 ?_); refine step_neq (by rfl) 55 55 _ _ rfl (i6 l.tm) (i6 m.tm) rfl rfl gdr1 E1.out false rfl ?_)
                  | ((with_reducible refine at_bin .neq 59 ?_); refine step_neq (by rfl) 59 59 _ _ rfl (i12 l.bk) (i12 m.bk) rfl rfl gdr3 E3.out false rfl ?_)
                  | ((with_reducible refine at_bin .neq 61 ?_); refine step_neq (by rfl) 61 61 _ _ rfl (cs15 l.st l.su l.cs) (cs15 m.st m.su m.cs) rfl rfl gdr4 E4.out false rfl ?_))
                go_ret
                exact ⟨AnsB.no HN.out, BW.out⟩
            · have HN : Hid (¬ l = m) := K5.out h5
              have a5 : (x5 != y5) = true := by simp [h5]
              have b5 : (x5 == y5) = false := by simp [h5]
              clear h5 HA
              go_wp2_with (first
                | ((with_reducible refine at_loadG 55 ?_); refine step_loadG (by rfl) 55 _ rfl X 1 rfl (i6 l.tm) _ (BX.out.range 1 6) Try.underlying55 rfl (sizT _) ?_)
                | ((with_reducible refine at_loadG 55 ?_); refine step_loadG (by rfl) 55 _ rfl (X + 1) 1 rfl (i6 m.tm) _ (BY.out.range 1 6) Try.underlying55 rfl (sizT _) ?_)
                | ((with_reducible refine at_loadG 59 ?_); refine step_loadG (by rfl) 59 _ rfl X 8 rfl (i12 l.bk) _ (BX.out.range 8 12) Try.underlying59 rfl (sizB _) ?_)
                | ((with_reducible refine at_loadG 59 ?_); refine step_loadG (by rfl) 59 _ rfl (X + 1) 8 rfl (i12 m.bk) _ (BY.out.range 8 12) Try.underlying59 rfl (sizB _) ?_)
                | ((with_reducible refine at_loadG 61 ?_); refine step_loadG (by rfl) 61 _ rfl X 20 rfl (cs15 l.st l.su l.cs) _ (BX.out.range 20 15) Try.underlying61 rfl (sizC _ _ _) ?_)
                | ((with_reducible refine at_loadG 61 ?_); refine step_loadG (by rfl) 61 _ rfl (X + 1) 20 rfl (cs15 m.st m.su m.cs) _ (BY.out.range 20 15) Try.underlying61 rfl (sizC _ _ _) ?_)
                | ((with_reducible refine at_loadG 63 ?_); refine step_loadG (by rfl) 63 _ rfl X 38 rfl (i5 l.la) _ (BX.out.range 38 5) Try.underlying63 rfl (sizP _) ?_)
                | ((with_reducible refine at_loadG 63 ?_); refine step_loadG (by rfl) 63 _ rfl (X + 1) 38 rfl (i5 m.la) _ (BY.out.range 38 5) Try.underlying63 rfl (sizP _) ?_)
                | ((with_reducible refine at_bin .neq 55 ?_); refine step_neq (by rfl) 55 55 _ _ rfl (i6 l.tm) (i6 m.tm) rfl rfl gdr1 E1.out false rfl ?_)
                | ((with_reducible refine at_bin .neq 59 ?_); refine step_neq (by rfl) 59 59 _ _ rfl (i12 l.bk) (i12 m.bk) rfl rfl gdr3 E3.out false rfl ?_)
                | ((with_reducible refine at_bin .neq 61 ?_); refine step_neq (by rfl) 61 61 _ _ rfl (cs15 l.st l.su l.cs) (cs15 m.st m.su m.cs) rfl rfl gdr4 E4.out false rfl ?_))
              refine (PC.out _ BW.out).mono ?_
              rintro e w3 ⟨rfl, nd, hw3⟩
              subst hw3
              have BX : Hid (Blk X 65 (lnL l (.slice pa pn pc)) (W0.drewN nd)) := BX.out.drewN nd
              have BY : Hid (Blk (X + 1) 65 (lnL m (.slice qa qn qc)) (W0.drewN nd)) := BY.out.drewN nd
              have BW : Hid (Below w.heap.size w (W0.drewN nd)) := below_drewN BW.out nd
              go_wp2_with (first
                | ((with_reducible refine at_loadG 55 ?_); refine step_loadG (by rfl) 55 _ rfl X 1 rfl (i6 l.tm) _ (BX.out.range 1 6) Try.underlying55 rfl (sizT _) ?_)
                | ((with_reducible refine at_loadG 55 ?_); refine step_loadG (by rfl) 55 _ rfl (X + 1) 1 rfl (i6 m.tm) _ (BY.out.range 1 6) Try.underlying55 rfl (sizT _) ?_)
                | ((with_reducible refine at_loadG 59 ?_); refine step_loadG (by rfl) 59 _ rfl X 8 rfl (i12 l.bk) _ (BX.out.range 8 12) Try.underlying59 rfl (sizB _) ?_)
                | ((with_reducible refine at_loadG 59 ?_); refine step_loadG (by rfl) 59 _ rfl (X + 1) 8 rfl (i12 m.bk) _ (BY.out.range 8 12) Try.underlying59 rfl (sizB _) ?_)
                | ((with_reducible refine at_loadG 61 ?_); refine step_loadG (by rfl) 61 _ rfl X 20 rfl (cs15 l.st l.su l.cs) _ (BX.out.range 20 15) Try.underlying61 rfl (sizC _ _ _) ?_)
                | ((with_reducible refine at_loadG 61 ?_); refine step_loadG (by rfl) 61 _ rfl (X + 1) 20 rfl (cs15 m.st m.su m.cs) _ (BY.out.range 20 15) Try.underlying61 rfl (sizC _ _ _) ?_)
                | ((with_reducible refine at_loadG 63 ?_); refine step_loadG (by rfl) 63 _ rfl X 38 rfl (i5 l.la) _ (BX.out.range 38 5) Try.underlying63 rfl (sizP _) ?_)
                | ((with_reducible refine at_loadG 63 ?_); refine step_loadG (by rfl) 63 _ rfl (X + 1) 38 rfl (i5 m.la) _ (BY.out.range 38 5) Try.underlying63 rfl (sizP _) ?_)
                | ((with_reducible refine at_bin .neq 55 ?_); refine step_neq (by rfl) 55 55 _ _ rfl (i6 l.tm) (i6 m.tm) rfl rfl gdr1 E1.out false rfl ?_)
                | ((with_reducible refine at_bin .neq 59 ?_); refine step_neq (by rfl) 59 59 _ _ rfl (i12 l.bk) (i12 m.bk) rfl rfl gdr3 E3.out false rfl ?_)
                | ((with_reducible refine at_bin .neq 61 ?_); refine step_neq (by rfl) 61 61 _ _ rfl (cs15 l.st l.su l.cs) (cs15 m.st m.su m.cs) rfl rfl gdr4 E4.out false rfl ?_))
              go_ret
              exact ⟨AnsB.no HN.out, BW.out⟩
          | false =>
            have HN : Hid (¬ l = m) := N4.out rfl
            clear HA
            go_wp2_with (first
              | ((with_reducible refine at_loadG 55 ?_); refine step_loadG (by rfl) 55 _ rfl X 1 rfl (i6 l.tm) _ (BX.out.range 1 6) Try.underlying55 rfl (sizT _) ?_)
              | ((with_reducible refine at_loadG 55 ?_); refine step_loadG (by rfl) 55 _ rfl (X + 1) 1 rfl (i6 m.tm) _ (BY.out.range 1 6) Try.underlying55 rfl (sizT _) ?_)
              | ((with_reducible refine at_loadG 59 ?_); refine step_loadG (by rfl) 59 _ rfl X 8 rfl (i12 l.bk) _ (BX.out.range 8 12) Try.underlying59 rfl (sizB _) ?_)
              | ((with_reducible refine at_loadG 59 ?_); refine step_loadG (by rfl) 59 _ rfl (X + 1) 8 rfl (i12 m.bk) _ (BY.out.range 8 12) Try.underlying59 rfl (sizB _) ?_)
              | ((with_reducible refine at_loadG 61 ?_); refine step_loadG (by rfl) 61 _ rfl X 20 rfl (cs15 l.st l.su l.cs) _ (BX.out.range 20 15) Try.underlying61 rfl (sizC _ _ _) ?_)
              | ((with_reducible refine at_loadG 61 ?_); refine step_loadG (by rfl) 61 _ rfl (X + 1) 20 rfl (cs15 m.st m.su m.cs) _ (BY.out.range 20 15) Try.underlying61 rfl (sizC _ _ _) ?_)
              | ((with_reducible refine at_loadG 63 ?_); refine step_loadG (by rfl) 63 _ rfl X 38 rfl (i5 l.la) _ (BX.out.range 38 5) Try.underlying63 rfl (sizP _) ?_)
              | ((with_reducible refine at_loadG 63 ?_); refine step_loadG (by rfl) 63 _ rfl (X + 1) 38 rfl (i5 m.la) _ (BY.out.range 38 5) Try.underlying63 rfl (sizP _) ?_)
              | ((with_reducible refine at_bin .neq 55 ?_); refine step_neq (by rfl) 55 55 _ _ rfl (i6 l.tm) (i6 m.tm) rfl rfl gdr1 E1.out false rfl ?_)
              | ((with_reducible refine at_bin .neq 59 ?_); refine step_neq (by rfl) 59 59 _ _ rfl (i12 l.bk) (i12 m.bk) rfl rfl gdr3 E3.out false rfl ?_)
              | ((with_reducible refine at_bin .neq 61 ?_); refine step_neq (by rfl) 61 61 _ _ rfl (cs15 l.st l.su l.cs) (cs15 m.st m.su m.cs) rfl rfl gdr4 E4.out true rfl ?_))
            refine (PC.out _ BW.out).mono ?_
            rintro e w3 ⟨rfl, nd, hw3⟩
            subst hw3
            have BX : Hid (Blk X 65 (lnL l (.slice pa pn pc)) (W0.drewN nd)) := BX.out.drewN nd
            have BY : Hid (Blk (X + 1) 65 (lnL m (.slice qa qn qc)) (W0.drewN nd)) := BY.out.drewN nd
            have BW : Hid (Below w.heap.size w (W0.drewN nd)) := below_drewN BW.out nd
            go_wp2_with (first
              | ((with_reducible refine at_loadG 55 ?_); refine step_loadG (by rfl) 55 _ rfl X 1 rfl (i6 l.tm) _ (BX.out.range 1 6) Try.underlying55 rfl (sizT _) ?_)
              | ((with_reducible refine at_loadG 55 ?_); refine step_loadG (by rfl) 55 _ rfl (X + 1) 1 rfl (i6 m.tm) _ (BY.out.range 1 6) Try.underlying55 rfl (sizT _) ?_)
              | ((with_reducible refine at_loadG 59 ?_); refine step_loadG (by rfl) 59 _ rfl X 8 rfl (i12 l.bk) _ (BX.out.range 8 12) Try.underlying59 rfl (sizB _) ?_)
              | ((with_reducible refine at_loadG 59 ?_); refine step_loadG (by rfl) 59 _ rfl (X + 1) 8 rfl (i12 m.bk) _ (BY.out.range 8 12) Try.underlying59 rfl (sizB _) ?_)
              | ((with_reducible refine at_loadG 61 ?_); refine step_loadG (by rfl) 61 _ rfl X 20 rfl (cs15 l.st l.su l.cs) _ (BX.out.range 20 15) Try.underlying61 rfl (sizC _ _ _) ?_)
              | ((with_reducible refine at_loadG 61 ?_); refine step_loadG (by rfl) 61 _ rfl (X + 1) 20 rfl (cs15 m.st m.su m.cs) _ (BY.out.range 20 15) Try.underlying61 rfl (sizC _ _ _) ?_)
              | ((with_reducible refine at_loadG 63 ?_); refine step_loadG (by rfl) 63 _ rfl X 38 rfl (i5 l.la) _ (BX.out.range 38 5) Try.underlying63 rfl (sizP _) ?_)
              | ((with_reducible refine at_loadG 63 ?_); refine step_loadG (by rfl) 63 _ rfl (X + 1) 38 rfl (i5 m.la) _ (BY.out.range 38 5) Try.underlying63 rfl (sizP _) ?_)
              | ((with_reducible refine at_bin .neq 55 ?_); refine step_neq (by rfl) 55 55 _ _ rfl (i6 l.tm) (i6 m.tm) rfl rfl gdr1 E1.out false rfl ?_)
              | ((with_reducible refine at_bin .neq 59 ?_); refine step_neq (by rfl) 59 59 _ _ rfl (i12 l.bk) (i12 m.bk) rfl rfl gdr3 E3.out false rfl ?_)
              | ((with_reducible refine at_bin .neq 61 ?_); refine step_neq (by rfl) 61 61 _ _ rfl (cs15 l.st l.su l.cs) (cs15 m.st m.su m.cs) rfl rfl gdr4 E4.out true rfl ?_))
            go_ret
            exact ⟨AnsB.no HN.out, BW.out⟩
        | false =>
          have HN : Hid (¬ l = m) := N3.out rfl
          clear HA
          go_wp2_with (first
            | ((with_reducible refine at_loadG 55 ?_); refine step_loadG (by rfl) 55 _ rfl X 1 rfl (i6 l.tm) _ (BX.out.range 1 6) Try.underlying55 rfl (sizT _) ?_)
            | ((with_reducible refine at_loadG 55 ?_); refine step_loadG (by rfl) 55 _ rfl (X + 1) 1 rfl (i6 m.tm) _ (BY.out.range 1 6) Try.underlying55 rfl (sizT _) ?_)
            | ((with_reducible refine at_loadG 59 ?_); refine step_loadG (by rfl) 59 _ rfl X 8 rfl (i12 l.bk) _ (BX.out.range 8 12) Try.underlying59 rfl (sizB _) ?_)
            | ((with_reducible refine at_loadG 59 ?_); refine step_loadG (by rfl) 59 _ rfl (X + 1) 8 rfl (i12 m.bk) _ (BY.out.range 8 12) Try.underlying59 rfl (sizB _) ?_)
            | ((with_reducible refine at_loadG 61 ?_); refine step_loadG (by rfl) 61 _ rfl X 20 rfl (cs15 l.st l.su l.cs) _ (BX.out.range 20 15) Try.underlying61 rfl (sizC _ _ _) ?_)
            | ((with_reducible refine at_loadG 61 ?_); refine step_loadG (by rfl) 61 _ rfl (X + 1) 20 rfl (cs15 m.st m.su m.cs) _ (BY.out.range 20 15) Try.underlying61 rfl (sizC _ _ _) ?_)
            | ((with_reducible refine at_loadG 63 ?_); refine step_loadG (by rfl) 63 _ rfl X 38 rfl (i5 l.la) _ (BX.out.range 38 5) Try.underlying63 rfl (sizP _) ?_)
            | ((with_reducible refine at_loadG 63 ?_); refine step_loadG (by rfl) 63 _ rfl (X + 1) 38 rfl (i5 m.la) _ (BY.out.range 38 5) Try.underlying63 rfl (sizP _) ?_)
            | ((with_reducible refine at_bin .neq 55 ?_); refine step_neq (by rfl) 55 55 _ _ rfl (i6 l.tm) (i6 m.tm) rfl rfl gdr1 E1.out false rfl ?_)
            | ((with_reducible refine at_bin .neq 59 ?_); refine step_neq (by rfl) 59 59 _ _ rfl (i12 l.bk) (i12 m.bk) rfl rfl gdr3 E3.out true rfl ?_))
          refine (PC.out _ BW.out).mono ?_
          rintro e w3 ⟨rfl, nd, hw3⟩
          subst hw3
          have BX : Hid (Blk X 65 (lnL l (.slice pa pn pc)) (W0.drewN nd)) := BX.out.drewN nd
          have BY : Hid (Blk (X + 1) 65 (lnL m (.slice qa qn qc)) (W0.drewN nd)) := BY.out.drewN nd
          have BW : Hid (Below w.heap.size w (W0.drewN nd)) := below_drewN BW.out nd
          go_wp2_with (first
            | ((with_reducible refine at_loadG 55 ?_); refine step_loadG (by rfl) 55 _ rfl X 1 rfl (i6 l.tm) _ (BX.out.range 1 6) Try.underlying55 rfl (sizT _) ?_)
            | ((with_reducible refine at_loadG 55 ?_); refine step_loadG (by rfl) 55 _ rfl (X + 1) 1 rfl (i6 m.tm) _ (BY.out.range 1 6) Try.underlying55 rfl (sizT _) ?_)
            | ((with_reducible refine at_loadG 59 ?_); refine step_loadG (by rfl) 59 _ rfl X 8 rfl (i12 l.bk) _ (BX.out.range 8 12) Try.underlying59 rfl (sizB _) ?_)
            | ((with_reducible refine at_loadG 59 ?_); refine step_loadG (by rfl) 59 _ rfl (X + 1) 8 rfl (i12 m.bk) _ (BY.out.range 8 12) Try.underlying59 rfl (sizB _) ?_)
            | ((with_reducible refine at_loadG 61 ?_); refine step_loadG (by rfl) 61 _ rfl X 20 rfl (cs15 l.st l.su l.cs) _ (BX.out.range 20 15) Try.underlying61 rfl (sizC _ _ _) ?_)
            | ((with_reducible refine at_loadG 61 ?_); refine step_loadG (by rfl) 61 _ rfl (X + 1) 20 rfl (cs15 m.st m.su m.cs) _ (BY.out.range 20 15) Try.underlying61 rfl (sizC _ _ _) ?_)
            | ((with_reducible refine at_loadG 63 ?_); refine step_loadG (by rfl) 63 _ rfl X 38 rfl (i5 l.la) _ (BX.out.range 38 5) Try.underlying63 rfl (sizP _) ?_)
            | ((with_reducible refine at_loadG 63 ?_); refine step_loadG (by rfl) 63 _ rfl (X + 1) 38 rfl (i5 m.la) _ (BY.out.range 38 5) Try.underlying63 rfl (sizP _) ?_)
            | ((with_reducible refine at_bin .neq 55 ?_); refine step_neq (by rfl) 55 55 _ _ rfl (i6 l.tm) (i6 m.tm) rfl rfl gdr1 E1.out false rfl ?_)
            | ((with_reducible refine at_bin .neq 59 ?_); refine step_neq (by rfl) 59 59 _ _ rfl (i12 l.bk) (i12 m.bk) rfl rfl gdr3 E3.out true rfl ?_))
          go_ret
          exact ⟨AnsB.no HN.out, BW.out⟩
      · have H2 : Hid (¬ l.pl = m.pl) := h2
        have PC : Hid (∀ W, Below w.heap.size w W → Calls Try.prog 63 #[.slice pa pn pc, .slice qa qn qc] W fun e w' => e = .returned (.bool false) ∧ ∃ n, w' = W.drewN n) := fun W hb => (SP.out W hb).mono fun e w' ⟨⟨b, h1, h2⟩, h3⟩ => ⟨by rw [h1]; cases b; rfl; exact absurd (h2.1 rfl) H2.out, h3⟩
        have HN : Hid (¬ l = m) := fun e => H2.out (by rw [e])
        clear SP h2 HA
        go_wp2_with (first
          | ((with_reducible refine at_loadG 55 ?_); refine step_loadG (by rfl) 55 _ rfl X 1 rfl (i6 l.tm) _ (BX.out.range 1 6) Try.underlying55 rfl (sizT _) ?_)
          | ((with_reducible refine at_loadG 55 ?_); refine step_loadG (by rfl) 55 _ rfl (X + 1) 1 rfl (i6 m.tm) _ (BY.out.range 1 6) Try.underlying55 rfl (sizT _) ?_)
          | ((with_reducible refine at_loadG 59 ?_); refine step_loadG (by rfl) 59 _ rfl X 8 rfl (i12 l.bk) _ (BX.out.range 8 12) Try.underlying59 rfl (sizB _) ?_)
          | ((with_reducible refine at_loadG 59 ?_); refine step_loadG (by rfl) 59 _ rfl (X + 1) 8 rfl (i12 m.bk) _ (BY.out.range 8 12) Try.underlying59 rfl (sizB _) ?_)
          | ((with_reducible refine at_loadG 61 ?_); refine step_loadG (by rfl) 61 _ rfl X 20 rfl (cs15 l.st l.su l.cs) _ (BX.out.range 20 15) Try.underlying61 rfl (sizC _ _ _) ?_)
          | ((with_reducible refine at_loadG 61 ?_); refine step_loadG (by rfl) 61 _ rfl (X + 1) 20 rfl (cs15 m.st m.su m.cs) _ (BY.out.range 20 15) Try.underlying61 rfl (sizC _ _ _) ?_)
          | ((with_reducible refine at_loadG 63 ?_); refine step_loadG (by rfl) 63 _ rfl X 38 rfl (i5 l.la) _ (BX.out.range 38 5) Try.underlying63 rfl (sizP _) ?_)
          | ((with_reducible refine at_loadG 63 ?_); refine step_loadG (by rfl) 63 _ rfl (X + 1) 38 rfl (i5 m.la) _ (BY.out.range 38 5) Try.underlying63 rfl (sizP _) ?_)
          | ((with_reducible refine at_bin .neq 55 ?_); refine step_neq (by rfl) 55 55 _ _ rfl (i6 l.tm) (i6 m.tm) rfl rfl gdr1 E1.out false rfl ?_))
        refine (PC.out _ BW.out).mono ?_
        rintro e w3 ⟨rfl, nd, hw3⟩
        subst hw3
        have BX : Hid (Blk X 65 (lnL l (.slice pa pn pc)) (W0.drewN nd)) := BX.out.drewN nd
        have BY : Hid (Blk (X + 1) 65 (lnL m (.slice qa qn qc)) (W0.drewN nd)) := BY.out.drewN nd
        have BW : Hid (Below w.heap.size w (W0.drewN nd)) := below_drewN BW.out nd
        go_wp2_with (first
          | ((with_reducible refine at_loadG 55 ?_); refine step_loadG (by rfl) 55 _ rfl X 1 rfl (i6 l.tm) _ (BX.out.range 1 6) Try.underlying55 rfl (sizT _) ?_)
          | ((with_reducible refine at_loadG 55 ?_); refine step_loadG (by rfl) 55 _ rfl (X + 1) 1 rfl (i6 m.tm) _ (BY.out.range 1 6) Try.underlying55 rfl (sizT _) ?_)
          | ((with_reducible refine at_loadG 59 ?_); refine step_loadG (by rfl) 59 _ rfl X 8 rfl (i12 l.bk) _ (BX.out.range 8 12) Try.underlying59 rfl (sizB _) ?_)
          | ((with_reducible refine at_loadG 59 ?_); refine step_loadG (by rfl) 59 _ rfl (X + 1) 8 rfl (i12 m.bk) _ (BY.out.range 8 12) Try.underlying59 rfl (sizB _) ?_)
          | ((with_reducible refine at_loadG 61 ?_); refine step_loadG (by rfl) 61 _ rfl X 20 rfl (cs15 l.st l.su l.cs) _ (BX.out.range 20 15) Try.underlying61 rfl (sizC _ _ _) ?_)
          | ((with_reducible refine at_loadG 61 ?_); refine step_loadG (by rfl) 61 _ rfl (X + 1) 20 rfl (cs15 m.st m.su m.cs) _ (BY.out.range 20 15) Try.underlying61 rfl (sizC _ _ _) ?_)
          | ((with_reducible refine at_loadG 63 ?_); refine step_loadG (by rfl) 63 _ rfl X 38 rfl (i5 l.la) _ (BX.out.range 38 5) Try.underlying63 rfl (sizP _) ?_)
          | ((with_reducible refine at_loadG 63 ?_); refine step_loadG (by rfl) 63 _ rfl (X + 1) 38 rfl (i5 m.la) _ (BY.out.range 38 5) Try.underlying63 rfl (sizP _) ?_)
          | ((with_reducible refine at_bin .neq 55 ?_); refine step_neq (by rfl) 55 55 _ _ rfl (i6 l.tm) (i6 m.tm) rfl rfl gdr1 E1.out false rfl ?_))
        go_ret
        exact ⟨AnsB.no HN.out, BW.out⟩
    | false =>
      have HN : Hid (¬ l = m) := N1.out rfl
      clear HA
      go_wp2_with (first
        | ((with_reducible refine at_loadG 55 ?_); refine step_loadG (by rfl) 55 _ rfl X 1 rfl (i6 l.tm) _ (BX.out.range 1 6) Try.underlying55 rfl (sizT _) ?_)
        | ((with_reducible refine at_loadG 55 ?_); refine step_loadG (by rfl) 55 _ rfl (X + 1) 1 rfl (i6 m.tm) _ (BY.out.range 1 6) Try.underlying55 rfl (sizT _) ?_)
        | ((with_reducible refine at_loadG 59 ?_); refine step_loadG (by rfl) 59 _ rfl X 8 rfl (i12 l.bk) _ (BX.out.range 8 12) Try.underlying59 rfl (sizB _) ?_)
        | ((with_reducible refine at_loadG 59 ?_); refine step_loadG (by rfl) 59 _ rfl (X + 1) 8 rfl (i12 m.bk) _ (BY.out.range 8 12) Try.underlying59 rfl (sizB _) ?_)
        | ((with_reducible refine at_loadG 61 ?_); refine step_loadG (by rfl) 61 _ rfl X 20 rfl (cs15 l.st l.su l.cs) _ (BX.out.range 20 15) Try.underlying61 rfl (sizC _ _ _) ?_)
        | ((with_reducible refine at_loadG 61 ?_); refine step_loadG (by rfl) 61 _ rfl (X + 1) 20 rfl (cs15 m.st m.su m.cs) _ (BY.out.range 20 15) Try.underlying61 rfl (sizC _ _ _) ?_)
        | ((with_reducible refine at_loadG 63 ?_); refine step_loadG (by rfl) 63 _ rfl X 38 rfl (i5 l.la) _ (BX.out.range 38 5) Try.underlying63 rfl (sizP _) ?_)
        | ((with_reducible refine at_loadG 63 ?_); refine step_loadG (by rfl) 63 _ rfl (X + 1) 38 rfl (i5 m.la) _ (BY.out.range 38 5) Try.underlying63 rfl (sizP _) ?_)
        | ((with_reducible refine at_bin .neq 55 ?_); refine step_neq (by rfl) 55 55 _ _ rfl (i6 l.tm) (i6 m.tm) rfl rfl gdr1 E1.out true rfl ?_))
      go_ret
      exact ⟨AnsB.no HN.out, BW.out⟩
  · have HN : Hid (¬ l = m) := K0.out h0
    have a0 : (x0 != y0) = true := by simp [h0]
    have b0 : (x0 == y0) = false := by simp [h0]
    clear h0 HA
    go_wp2_with (first
      | ((with_reducible refine at_loadG 55 ?_); refine step_loadG (by rfl) 55 _ rfl X 1 rfl (i6 l.tm) _ (BX.out.range 1 6) Try.underlying55 rfl (sizT _) ?_)
      | ((with_reducible refine at_loadG 55 ?_); refine step_loadG (by rfl) 55 _ rfl (X + 1) 1 rfl (i6 m.tm) _ (BY.out.range 1 6) Try.underlying55 rfl (sizT _) ?_)
      | ((with_reducible refine at_loadG 59 ?_); refine step_loadG (by rfl) 59 _ rfl X 8 rfl (i12 l.bk) _ (BX.out.range 8 12) Try.underlying59 rfl (sizB _) ?_)
      | ((with_reducible refine at_loadG 59 ?_); refine step_loadG (by rfl) 59 _ rfl (X + 1) 8 rfl (i12 m.bk) _ (BY.out.range 8 12) Try.underlying59 rfl (sizB _) ?_)
      | ((with_reducible refine at_loadG 61 ?_); refine step_loadG (by rfl) 61 _ rfl X 20 rfl (cs15 l.st l.su l.cs) _ (BX.out.range 20 15) Try.underlying61 rfl (sizC _ _ _) ?_)
      | ((with_reducible refine at_loadG 61 ?_); refine step_loadG (by rfl) 61 _ rfl (X + 1) 20 rfl (cs15 m.st m.su m.cs) _ (BY.out.range 20 15) Try.underlying61 rfl (sizC _ _ _) ?_)
      | ((with_reducible refine at_loadG 63 ?_); refine step_loadG (by rfl) 63 _ rfl X 38 rfl (i5 l.la) _ (BX.out.range 38 5) Try.underlying63 rfl (sizP _) ?_)
      | ((with_reducible refine at_loadG 63 ?_); refine step_loadG (by rfl) 63 _ rfl (X + 1) 38 rfl (i5 m.la) _ (BY.out.range 38 5) Try.underlying63 rfl (sizP _) ?_))
    go_ret
    exact ⟨AnsB.no HN.out, BW.out⟩
end Go.Proofs.Ytdbjjeaflfoppaa
