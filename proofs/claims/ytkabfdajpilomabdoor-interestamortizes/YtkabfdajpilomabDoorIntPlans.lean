/-
  Ours: the walk of InterestPlans.
-/
import Derived.Test.YtkabfdajpilomabDoorIntPlanA
import Derived.Test.YtkabfdajpilomabDoorIntIC
import Derived.Deep.RegionWith
namespace Go.Proofs.YtkabfdajpilomabDoor
open Go.RowKit IntM CalM

/-- Every old block but one is as it was. -/
def Els (g : Nat) (W w : World) : Prop := ∀ k, k < W.heap.size → k ≠ g → w.heap[k]? = W.heap[k]?
theorem Els.refl (g : Nat) (W : World) : Els g W W := fun _ _ _ => rfl
theorem Els.step {g i : Nat} {W w w' : World} {v : Value} (h : Els g W w) (hb : Below W.heap.size (w.setCell ⟨g, i, none⟩ v) w') : Els g W w' := fun k hk hg => by
  rw [hb.block k hk, Below.heap_setCell _ _ _ _ hg]; exact h k hk hg
theorem RowI.els {base g : Nat} {W w : World} {v : Value} {rs : List (Int × Int × Int)} (h : RowI base W v rs) (hg : g < base) (he : Els g W w) : RowI base w v rs := by
  refine ⟨h.1, ?_⟩
  rcases h.2 with hn | ⟨b, cap, cur, hv, hb, hh, rest⟩
  · exact .inl hn
  · exact .inr ⟨b, cap, cur, hv, hb, (he b (Array.getElem?_eq_some_iff.1 hh).1 (by omega)).trans hh, rest⟩
theorem cell_els {g : Nat} {W w : World} {a : Addr} {v : Value} (he : Els g W w) (hc : W.cell? a = some v) (hg : a.block ≠ g) : w.cell? a = some v :=
  (World.cell?_of_block (he a.block (World.block_lt_of_cell? W a hc) hg)).trans hc
theorem TermsAt.els {kind P r n start rule : Int} {bb g : Nat} {W w : World} (h : TermsAt kind P r n start rule bb W) (he : Els g W w) (hg : bb ≠ g) : TermsAt kind P r n start rule bb w :=
  ⟨cell_els he h.c0 hg, cell_els he h.c1 hg, cell_els he h.c2 hg, cell_els he h.c3 hg, cell_els he h.c4 hg, cell_els he h.c5 hg⟩

theorem RowI.form2 {base : Nat} {w : World} {v : Value} {rs : List (Int × Int × Int)} (h : RowI base w v rs) : ∃ a cap, v = .slice a rs.length cap ∧ InstOk w a rs := by
  refine RowI.form h ?_
  rcases h.2 with ⟨_, h0⟩ | ⟨g, cap, cur, rfl, hb, hg, hn, hm, hs, ht⟩
  · omega
  · unfold maxLen at hm; omega
theorem PlanAns.row {base : Nat} {w : World} {v : Value} {o : Option (List (Int × Int × Int))} (h : PlanAns base w v o) : RowI base w v (o.getD []) := by
  cases o with
  | none => obtain rfl : v = .slice none 0 0 := h; exact RowI.nil _ _
  | some rs => exact h

set_option maxRecDepth 100000 in
set_option maxHeartbeats 4000000 in
theorem plans_in (kind P r n start rule : Int) (a : Option Addr) (cap : Nat) (xs : List Int) (l1 : xs.length ≤ 1000) (w : World) (hA : TabA w) (hL : TabL w) (hS : SlOk w a xs) :
    Calls Tryd.prog 5 #[termsV kind P r n start rule, .slice a xs.length cap] w fun e w' => e = .returned (.bool true) ∧ Up w w' := by
  obtain ⟨i0, hi, hz0, hz1, hz2⟩ := info_parts infoI
  obtain ⟨L, hLL⟩ : ∃ L, xs.length = L := ⟨_, rfl⟩
  have CP : Hid (∀ (ys : List Int) (s : Option Addr) (c : Nat) (w : World), ys.length = L → SlOk w s ys → Calls Tryd.prog 10 #[.slice s L c] w fun e w' => ∃ v, e = .returned v ∧ Row 3 w.heap.size w' v (ys ++ [-7, -8, -9]) ∧ Up w w') := fun ys s c w hy h => by
    have := copied_at s c ys w h (by omega)
    rw [hy] at this; exact this
  have PL : Hid (∀ (ys : List Int) (s : Option Addr) (c : Nat) (w : World), ys.length = L → TabA w → TabL w → SlOk w s ys → Calls Tryd.prog 6 #[termsV kind P r n start rule, .slice s L c] w fun e w' => Up w w' ∧ PlanEnd w.heap.size (planO kind P r n start rule ys) e w') := fun ys s c w hy hA hL h => by
    have := plan_at kind P r n start rule ys s c w hA hL h
    rw [hy] at this; exact this
  have RP : Hid (∀ (ys : List Int) (s : Option Addr) (c : Nat) (w : World), ys.length = L → SlOk w s ys → Calls Tryd.prog 17 #[termsV kind P r n start rule, .slice s L c] w fun e w' => Up w w' ∧ PlanEnd w.heap.size (planO kind P r n start rule ys) e w') := fun ys s c w hy h => by
    have := refPlan_at kind P r n start rule ys s c w h
    rw [hy] at this; exact this
  have AL : Hid (∀ (s s' : Option Addr) (c c' : Nat) (rs : List (Int × Int × Int)) (w : World), InstOk w s rs → InstOk w s' rs → Calls Tryd.prog 8 #[.slice s rs.length c, .slice s' rs.length c'] w fun e w' => e = .returned (.bool true) ∧ ∃ n, w' = w.drewN n) := fun s s' c c' rs w h h' => alike_at s s' c c' rs w h h'
  have SM : Hid (∀ (ys : List Int) (s s' : Option Addr) (c c' : Nat) (w : World), ys.length = L → SlOk w s (ys ++ [-7, -8, -9]) → SlOk w s' (ys ++ [-7, -8, -9]) → Calls Tryd.prog 18 #[.slice s (L + 3) c, .slice s' (L + 3) c'] w fun e w' => e = .returned (.bool true) ∧ ∃ n, w' = w.drewN n) := fun ys s s' c c' w hy h h' => by
    have := same_at3 s s' c c' (ys ++ [-7, -8, -9]) w h h'
    have e : (ys ++ [-7, -8, -9]).length = L + 3 := by simp [hy]
    rw [e] at this; exact this
  have HA : Hid (TabA w) := hA
  have HT : Hid (TabL w) := hL
  have HS : Hid (SlOk w a xs) := hS
  have HL : Hid (xs.length = L) := hLL
  rw [hLL] at l1
  rw [hLL]
  clear hA hL hS hLL
  unfold termsV at *
  go_enter Tryd.func5, Tryd.ntmps5
  go_wp2_with fail
  have U0 := (Up.refl w).alloc (.cells #[.int .i64 kind, .int .i64 P, .int .i64 r, .int .i64 n, .int .i64 start, .int .i64 rule] 23)
  refine (CP.out xs _ _ _ HL.out (HS.out.up U0)).mono ?_
  rintro e w1 ⟨v, rfl, hrow, U1⟩
  obtain ⟨g, capg, hv, hg, hc1, hc2, ic⟩ := Row.ic hrow (by simp)
  have l3 : (xs ++ [-7, -8, -9]).length = L + 3 := by simp [HL.out]
  rw [l3] at hv hc1 ic
  subst hv
  have TA1 : TermsAt kind P r n start rule w.heap.size w1 := ⟨cell_in U1 0 _ rfl, cell_in U1 1 _ rfl, cell_in U1 2 _ rfl, cell_in U1 3 _ rfl, cell_in U1 4 _ rfl, cell_in U1 5 _ rfl⟩
  have TA : Hid (TermsAt kind P r n start rule w.heap.size w1) := TA1
  obtain ⟨c0, c1, c2, c3, c4, c5⟩ := TA1
  have IC1 : Hid (IC g (L + 3) w1 (fun i => (xs ++ [-7, -8, -9]).getD i 0)) := ic
  have UU1 : Hid (Up w w1) := U0.trans U1
  have HG : Hid (w.heap.size + 1 ≤ g) := by have := hg; simp at this; exact this
  have SG1 : Hid (SlOk w1 (some ⟨g, 0, none⟩) xs) := slOk_ic ic (by rw [HL.out]; omega) (by rw [HL.out]; omega) (fun i hi => by
    show (xs ++ [-7, -8, -9]).getD i 0 = _
    rw [List.getD_eq_getElem?_getD, List.getElem?_append_left hi, ← List.getD_eq_getElem?_getD])
  unfold maxLen at hc2
  clear hrow U1 U0 ic hg l3
  generalize hbb : w.heap.size = bb at *
  have HB : Hid (w.heap.size = bb) := hbb
  clear hbb
  have lc : (L : Int) ≤ (capg : Int) := by omega
  go_wp2_with fail
  go_region_with (go_at_call 6; refine (PL.out xs _ _ _ HL.out (HA.out.up (up_drewN UU1.out 1)) (HT.out.up (up_drewN UU1.out 1)) SG1.out).mono ?_; rintro e w2 ⟨U2, v1, rfl, A1⟩)
  all_goals
    have U12 : Up w1 w2 := (up_drewN (Up.refl w1) 1).trans U2
    have w12 : Hid (w1.heap.size ≤ w2.heap.size) := Below.size U12
    have R1 : Hid (RowI w1.heap.size w2 v1 ((planO kind P r n start rule xs).getD [])) := A1.row
    have UU2 : Hid (Up w w2) := UU1.out.trans U12
    have IC2 : Hid (IC g (L + 3) w2 (fun i => (xs ++ [-7, -8, -9]).getD i 0)) := IC1.out.below U12 IC1.out.lt
    have gw1 : Hid (g < w1.heap.size) := IC1.out.lt
    have TA2 : Hid (TermsAt kind P r n start rule bb w2) := TA.out.up U12
    obtain ⟨c0, c1, c2, c3, c4, c5⟩ := TA2.out
    clear U2 U12 A1 IC1 UU1 SG1 TA
    go_wp2_with fail
    refine (RP.out xs _ _ _ HL.out (HS.out.up UU2.out)).mono ?_
    rintro e w3 ⟨U3, v2, rfl, A2⟩
    have R2 : Hid (RowI w2.heap.size w3 v2 ((planO kind P r n start rule xs).getD [])) := A2.row
    have R1' : Hid (RowI w1.heap.size w3 v1 ((planO kind P r n start rule xs).getD [])) := R1.out.later U3
    have UU3 : Hid (Up w w3) := UU2.out.trans U3
    have IC3 : Hid (IC g (L + 3) w3 (fun i => (xs ++ [-7, -8, -9]).getD i 0)) := IC2.out.below U3 IC2.out.lt
    have TA3 : Hid (TermsAt kind P r n start rule bb w3) := TA2.out.up U3
    clear c0 c1 c2 c3 c4 c5
    obtain ⟨c0, c1, c2, c3, c4, c5⟩ := TA3.out
    clear U3 A2 IC2 UU2 TA2 R1
    generalize (planO kind P r n start rule xs).isSome = ok at *
    generalize (planO kind P r n start rule xs).getD [] = rs at *
    obtain ⟨t1, q1, rfl, I1⟩ := R1'.out.form2
    obtain ⟨t2, q2, rfl, I2⟩ := R2.out.form2
    have HI1 : Hid (InstOk w3 t1 rs) := I1
    have HI2 : Hid (InstOk w3 t2 rs) := I2
    clear I1 I2
    go_wp2_with fail
    refine (AL.out _ _ _ _ _ _ HI1.out HI2.out).mono ?_
    rintro e w4 ⟨rfl, m4, hw⟩; rw [hw]; clear hw w4
    go_wp2_with fail
    refine (CP.out xs _ _ _ HL.out (HS.out.up (up_drewN UU3.out m4))).mono ?_
    rintro e w5 ⟨v5, rfl, hrow5, U5'⟩
    have U5 : Up w3 w5 := (up_drewN (Up.refl w3) m4).trans U5'
    have l3 : (xs ++ [-7, -8, -9]).length = L + 3 := by simp [HL.out]
    obtain ⟨t5, q5, hv5, S5⟩ := Row.sl hrow5 (by rw [l3]; omega)
    rw [l3] at hv5
    subst hv5
    have IC5 : Hid (IC g (L + 3) w5 (fun i => (xs ++ [-7, -8, -9]).getD i 0)) := IC3.out.below U5 IC3.out.lt
    have SG5 : Hid (SlOk w5 (some ⟨g, 0, none⟩) (xs ++ [-7, -8, -9])) := slOk_ic IC5.out (by rw [l3]; omega) (by rw [l3]; omega) (fun i hi => rfl)
    have HS5 : Hid (SlOk w5 t5 (xs ++ [-7, -8, -9])) := S5
    have UU5 : Hid (Up w w5) := UU3.out.trans U5
    have TA5 : Hid (TermsAt kind P r n start rule bb w5) := TA3.out.up U5
    have R15 : Hid (RowI w1.heap.size w5 (.slice t1 rs.length q1) rs) := R1'.out.later U5
    have R25 : Hid (RowI w1.heap.size w5 (.slice t2 rs.length q2) rs) := (R2.out.later U5).mono w12.out
    clear hrow5 U5 U5' S5 IC3 UU3 TA3 R1' R2 HI1 HI2 l3
    clear c0 c1 c2 c3 c4 c5
    go_wp2_with fail
    refine (SM.out xs _ _ _ _ _ HL.out SG5.out HS5.out).mono ?_
    rintro e w6 ⟨rfl, m6, hw⟩; rw [hw]; clear hw w6
    have UU6 : Hid (Up w (w5.drewN m6)) := up_drewN UU5.out m6
    have IC6 : Hid (IC g (L + 3) (w5.drewN m6) (fun i => (xs ++ [-7, -8, -9]).getD i 0)) := IC5.out
    have TA6 : Hid (TermsAt kind P r n start rule bb (w5.drewN m6)) := TA5.out.up (up_drewN (Up.refl _) m6)
    have R16 : Hid (RowI w1.heap.size (w5.drewN m6) (.slice t1 rs.length q1) rs) := R15.out
    have R26 : Hid (RowI w1.heap.size (w5.drewN m6) (.slice t2 rs.length q2) rs) := R25.out
    clear IC5 SG5 HS5 UU5 TA5 R15 R25
    generalize w5.drewN m6 = W at *
    have sm0 : -3000000 < start.tmod 3000000 := Int.lt_tmod_of_pos start (by decide)
    have sm1 : start.tmod 3000000 < 3000000 := Int.tmod_lt_of_pos start (by decide)
    go_wp2_with fail
    go_loopw [10, 11] (fun v i wr => ∃ k : Nat, k ≤ L ∧ i = .int .i64 (k : Int) ∧ Hid (IC g (L + 3) wr (mixF (start.tmod 3000000 + 28) xs k)) ∧ Row 3 W.heap.size wr v (overL (start.tmod 3000000 + 28) k) ∧ Below w.heap.size w wr ∧ W.heap.size ≤ wr.heap.size ∧ Hid (Els g W wr)) (fun _ i _ => L - (intOf i).toNat)
    case atStart => exact ⟨0, by omega, rfl, IC6.out.congr (fun i _ => by simp [mixF]), Row.nil _ _ _, UU6.out, Nat.le_refl _, Els.refl _ _⟩
    case round =>
      obtain ⟨k, hk, rfl, hic, hown, hnx, hsz, hels⟩ := hrel
      obtain ⟨c0, c1, c2, c3, c4, c5⟩ := TA6.out.els hels.out (by have := HG.out; omega)
      by_cases hlt : (k : Int) < (L : Int)
      · have lt3 : (k : Int) < (L : Int) + 3 := by omega
        have ck := hic.out.cell (i := k) (by omega)
        have fz := hic.out.frozen k
        have gW : Hid (g < W.heap.size) := IC6.out.lt
        have wW : Hid (w.heap.size ≤ W.heap.size) := Below.size UU6.out
        have ROWS : Hid (Row 3 W.heap.size (wr.setCell ⟨g, k, none⟩ (.int .i64 (start.tmod 3000000 + 28 + (k : Int)))) u10 (overL (start.tmod 3000000 + 28) k)) := hown.set gW.out _
        have SZ : Hid (W.heap.size ≤ (wr.setCell ⟨g, k, none⟩ (.int .i64 (start.tmod 3000000 + 28 + (k : Int)))).heap.size) := by show W.heap.size ≤ _; simp; exact hsz
        have LO : Hid ((overL (start.tmod 3000000 + 28) k).length < 1099511627776) := by show _ < _; rw [overL_length]; omega
        go_wp2_with (at_builtin; refine wpList_push_at rfl (.tmp 67) (.tmp 72) 33 rfl 3 i0 Tryd.underlying33 hi hz0 hz1 hz2 W.heap.size W.heap.size (wr.setCell ⟨g, k, none⟩ (.int .i64 (start.tmod 3000000 + 28 + (k : Int)))) _ _ _ rfl ROWS.out (Below.refl _ _) (Nat.le_refl _) SZ.out wr.heap.size (size_set _ _ _) rfl LO.out ?_; intro v' w7 hown' hnx' hsz')
        have IC7 : Hid (IC g (L + 3) w7 (mixF (start.tmod 3000000 + 28) xs (k + 1))) := ((hic.out.set (i := k) (by omega) _).below hnx' gW.out).congr (fun i _ => mix_step _ _ _ _)
        have UU7 : Hid (Below w.heap.size w w7) := (hnx.setCell (p := ⟨g, k, none⟩) (by have := HG.out; have := HB.out; show w.heap.size ≤ g; omega) _).trans (hnx'.mono wW.out)
        have RO7 : Hid (Row 3 W.heap.size w7 v' (overL (start.tmod 3000000 + 28) (k + 1))) := by rw [overL_succ]; exact hown'
        have EL7 : Hid (Els g W w7) := hels.out.step hnx'
        go_roundw
        case rel => exact ⟨k + 1, by omega, by go_num, IC7.out, RO7.out, UU7.out, hsz', EL7⟩
        case measure => simp [intOf]; omega
      · obtain rfl : k = L := by omega
        obtain ⟨s, c, rfl, so⟩ := Row.sl hown (by rw [overL_length]; omega)
        rw [overL_length]
        have HSo : Hid (SlOk wr s (overL (start.tmod 3000000 + 28) k)) := so
        have HSg : Hid (SlOk wr (some ⟨g, 0, none⟩) (overL (start.tmod 3000000 + 28) k)) := slOk_ic hic.out (by rw [overL_length]; omega) (by rw [overL_length]; omega) (fun i hi => mixF_low _ _ _ _ (by rw [overL_length] at hi; exact hi))
        have HUr : Hid (Up w wr) := hnx
        have YL : Hid ((overL (start.tmod 3000000 + 28) k).length = k) := overL_length _ _
        have MA : Hid (∀ i, mixF (start.tmod 3000000 + 28) xs k i = (overL (start.tmod 3000000 + 28) k ++ [-7, -8, -9]).getD i 0) := fun i => mixF_all _ _ _ _ HL.out
        have Q1 : Hid (RowI w1.heap.size wr (.slice t1 rs.length q1) rs) := R16.out.els gw1.out hels.out
        have Q2 : Hid (RowI w1.heap.size wr (.slice t2 rs.length q2) rs) := R26.out.els gw1.out hels.out
        have TAr : Hid (TermsAt kind P r n start rule bb wr) := ⟨c0, c1, c2, c3, c4, c5⟩
        clear hown so hnx hsz IC6 UU6 hels R16 R26 TA6
        generalize overL (start.tmod 3000000 + 28) k = ys at *
        generalize mixF (start.tmod 3000000 + 28) xs k = F at *
        go_wp2_with fail
        go_region_with (go_at_call 6; refine (PL.out ys _ _ _ YL.out (HA.out.up (up_drewN HUr.out 1)) (HT.out.up (up_drewN HUr.out 1)) HSg.out).mono ?_; rintro e w7 ⟨U7', v3, rfl, A3⟩)
        have U7 : Up wr w7 := (up_drewN (Up.refl wr) 1).trans U7'
        have UU7 : Hid (Up w w7) := HUr.out.trans U7
        have R37 : Hid (RowI wr.heap.size w7 v3 ((planO kind P r n start rule ys).getD [])) := A3.row
        have IC7 : Hid (IC g (k + 3) w7 F) := hic.out.below U7 hic.out.lt
        have HSo7 : Hid (SlOk w7 s ys) := HSo.out.up U7
        have Q17 : Hid (RowI w1.heap.size w7 (.slice t1 rs.length q1) rs) := Q1.out.later U7
        have Q27 : Hid (RowI w1.heap.size w7 (.slice t2 rs.length q2) rs) := Q2.out.later U7
        have TA7 : Hid (TermsAt kind P r n start rule bb w7) := TAr.out.up U7
        clear c0 c1 c2 c3 c4 c5
        obtain ⟨c0, c1, c2, c3, c4, c5⟩ := TA7.out
        clear U7 U7' A3 HSg HSo hic Q1 Q2 TAr HUr TA7
        go_wp2_with fail
        refine (RP.out ys _ _ _ YL.out HSo7.out).mono ?_
        rintro e w8 ⟨U8, v4, rfl, A4⟩
        have R48 : Hid (RowI w7.heap.size w8 v4 ((planO kind P r n start rule ys).getD [])) := A4.row
        have R38 : Hid (RowI wr.heap.size w8 v3 ((planO kind P r n start rule ys).getD [])) := R37.out.later U8
        have UU8 : Hid (Up w w8) := UU7.out.trans U8
        have IC8 : Hid (IC g (k + 3) w8 F) := IC7.out.below U8 IC7.out.lt
        have HSo8 : Hid (SlOk w8 s ys) := HSo7.out.up U8
        have Q18 : Hid (RowI w1.heap.size w8 (.slice t1 rs.length q1) rs) := Q17.out.later U8
        have Q28 : Hid (RowI w1.heap.size w8 (.slice t2 rs.length q2) rs) := Q27.out.later U8
        clear c0 c1 c2 c3 c4 c5
        clear U8 A4 R37 IC7 HSo7 Q17 Q27 UU7
        generalize (planO kind P r n start rule ys).isSome = ok2 at *
        generalize (planO kind P r n start rule ys).getD [] = rs2 at *
        obtain ⟨t3, q3, rfl, I3⟩ := R38.out.form2
        obtain ⟨t4, q4, rfl, I4⟩ := R48.out.form2
        obtain ⟨t1', q1', e1, I1⟩ := Q18.out.form2
        obtain ⟨t2', q2', e2, I2⟩ := Q28.out.form2
        simp only [Value.slice.injEq, true_and] at e1 e2
        obtain ⟨rfl, rfl⟩ := e1
        obtain ⟨rfl, rfl⟩ := e2
        have HI1 : Hid (InstOk w8 t1 rs) := I1
        have HI2 : Hid (InstOk w8 t2 rs) := I2
        have HI3 : Hid (InstOk w8 t3 rs2) := I3
        have HI4 : Hid (InstOk w8 t4 rs2) := I4
        clear I1 I2 I3 I4 R38 R48 Q18 Q28
        go_wp2_with fail
        refine (AL.out _ _ _ _ _ _ HI3.out HI4.out).mono ?_
        rintro e w9 ⟨rfl, m9, hw⟩; rw [hw]; clear hw w9
        have HI1' : Hid (InstOk (w8.drewN m9) t1 rs) := HI1.out.up (up_drewN (Up.refl _) m9)
        have HI2' : Hid (InstOk (w8.drewN m9) t2 rs) := HI2.out.up (up_drewN (Up.refl _) m9)
        go_wp2_with fail
        refine (AL.out _ _ _ _ _ _ HI1'.out HI2'.out).mono ?_
        rintro e w9 ⟨rfl, m10, hw⟩; rw [hw]; clear hw w9
        have UD : Hid (Up w8 (w8.drewN (m9 + m10))) := up_drewN (Up.refl _) _
        go_wp2_with fail
        refine (CP.out ys _ _ _ YL.out (HSo8.out.up UD.out)).mono ?_
        rintro e w10 ⟨v10, rfl, hrow10, U10'⟩
        have U10 : Up w8 w10 := UD.out.trans U10'
        have l3 : (ys ++ [-7, -8, -9]).length = k + 3 := by simp [YL.out]
        obtain ⟨t10, q10, hv10, S10⟩ := Row.sl hrow10 (by rw [l3]; omega)
        rw [l3] at hv10
        subst hv10
        have SG10 : Hid (SlOk w10 (some ⟨g, 0, none⟩) (ys ++ [-7, -8, -9])) := slOk_ic (IC8.out.below U10 IC8.out.lt) (by rw [l3]; omega) (by rw [l3]; omega) (fun i hi => MA.out i)
        have HS10 : Hid (SlOk w10 t10 (ys ++ [-7, -8, -9])) := S10
        have UU10 : Hid (Up w w10) := UU8.out.trans U10
        clear U10 U10' UD hrow10 S10 HI1 HI2 HI3 HI4 HI1' HI2' IC8 l3
        go_wp2_with fail
        refine (SM.out ys _ _ _ _ _ YL.out SG10.out HS10.out).mono ?_
        rintro e w11 ⟨rfl, m11, hw⟩; rw [hw]; clear hw w11
        go_wp2_with fail
        go_ret
        exact ⟨rfl, up_drewN UU10.out m11⟩

theorem plans_walk (kind P r n start rule : Int) (_ : -9223372036854775808 ≤ start) (_ : start ≤ 9223372036854775807) (a : Option Addr) (cap : Nat) (xs : List Int) (w : World) (hA : TabA w) (hL : TabL w) (hS : SlOk w a xs) :
    Calls Tryd.prog 5 #[termsV kind P r n start rule, .slice a xs.length cap] w fun e w' => e = .returned (.bool true) ∧ Up w w' := by
  by_cases h : xs.length ≤ 1000
  · exact plans_in kind P r n start rule a cap xs h w hA hL hS
  · have h1 := hS.1
    unfold termsV
    generalize xs.length = L at *
    go_enter Tryd.func5, Tryd.ntmps5
    go_wp2_with fail
    go_ret
    exact ⟨rfl, (Up.refl _).alloc _⟩
end Go.Proofs.YtkabfdajpilomabDoor
