/-
  Ours: the contract of arrearsref1.Split.
-/
import Derived.Test.YtfdahdloihgjeacDoorRefSplit
import Derived.Test.YtfdahdloihgjeacDoorPush2
namespace Go.Proofs.YtfdahdloihgjeacDoor
open Go.RowKit Stable Spl

theorem lst_step (F : Nat → Int) (n : Nat) : lst F (n + 1) = lst F n ++ [F n] := by simp [lst, List.range_succ]

theorem Row.ic {base n : Nat} {w : World} {v : Value} {F : Nat → Int} (h : Row 2 base w v (lst F n)) (hn : 0 < n) : ∃ g cap, v = .slice (some ⟨g, 0, none⟩) n cap ∧ base ≤ g ∧ n ≤ cap ∧ cap ≤ maxLen ∧ IC g n w F := by
  have h' : w.ownsRow base 2 1 v (lst F n).length ((lst F n).map (Value.int .i64)) := h
  rw [lst_length] at h'
  rcases h'.2 with ⟨_, h0⟩ | ⟨g, cap, cur, rfl, hb, hg, hnn, hm, hs, ht⟩
  · omega
  · refine ⟨g, cap, rfl, hb, hnn, hm, ic_of_own h' fun i hi => ?_⟩
    rw [List.getElem?_map]
    have : (lst F n)[i]? = some (F i) := by simp [lst, List.getElem?_range hi]
    rw [this]; rfl

/-- What the reference's Split has answered to what may be split. -/
def RefSplitAns (n : Nat) (P : Nat → Int) (w : World) (e : Ending) (w' : World) : Prop :=
  ∃ gp cap, e = .returned (.tuple #[.slice (some ⟨gp, 0, none⟩) n cap, .bool true]) ∧ n ≤ cap ∧ Below w.heap.size w w' ∧ IC gp n w' P ∧ w.heap.size ≤ gp

set_option maxRecDepth 100000 in
set_option maxHeartbeats 4000000 in
theorem rsplit_yes (T W : Int) (ws : List Int) (f : Nat → Nat) (g o cap : Nat) (w : World) (hx : I64 ws) (h0 : 0 < ws.length) (hl : ws.length ≤ 1000) (hg : g < w.heap.size) (T0 : 0 ≤ T) (T1 : T ≤ 9223372036854775807)
    (hc : ∀ i, i < ws.length → w.cell? ⟨g, o + i, none⟩ = some (.int .i64 (ws.getD i 0))) (ad : adOk ws = true) (hW : total ws = W) (W1 : W ≤ 9223372036854775807)
    (sh : Sh T W (fun i => ws.getD i 0) ws.length f) :
    Calls Tryd.prog 16 #[.int .i64 T, .slice (some ⟨g, o, none⟩) ws.length cap] w (RefSplitAns ws.length (prt T W (fun i => ws.getD i 0) ws.length f) w) := by
  obtain ⟨i0, hi, hz0, hz1, hz2⟩ := info_parts Tryd.info2
  have HA : Hid (∀ w', w' = w → Calls Tryd.prog 45 #[.int .i64 T, .slice (some ⟨g, o, none⟩) ws.length cap] w' fun e w'' => e = .returned (.tuple #[.int .i64 W, .bool true]) ∧ w'' = w') := fun w' hw' => by
    subst hw'
    refine (whole_full T ws g o cap _ hx (by omega) h0 hc).mono fun e w'' ⟨⟨V, he, hV⟩, hw⟩ => ⟨?_, hw⟩
    rw [he, hV T0 ad, hW, ad]; simp [T0]
  have ms := missing T W (fun i => ws.getD i 0) ws.length T0 sh.W0 sh.pos sh.sum
  have pl : ∀ i, i < ws.length → 0 ≤ quoF T W ws i ∧ quoF T W ws i ≤ T := fun i hi => part_le T W _ T0 sh.W0 (sh.pos i hi) (by rw [← sh.sum]; exact one_le (w := fun i => ws.getD i 0) sh.pos hi)
  have W0 := sh.W0
  have FL : Hid (∀ i, i < ws.length → ∀ w, Calls Tryd.prog 29 #[.int .i64 T, .int .i64 (ws.getD i 0), .int .i64 W] w fun e w' => e = .returned (.tuple #[.int .i64 (quoF T W ws i), .int .i64 (rstF T W ws i), .bool true]) ∧ Below w.heap.size w w') := fun i hi w => by
    have := rfloor_any T (ws.getD i 0) W (by omega) T1 (hx i).1 (hx i).2 (by omega) W1 w
    have p := pl i hi
    have ok : flOk T (ws.getD i 0) W = true := decide_eq_true ⟨W0, by unfold quoF at p; omega, by unfold quoF at p; omega⟩
    have e1 : flQ T (ws.getD i 0) W = quoF T W ws i := by unfold flQ quoF; rw [ok, if_pos rfl]
    have e2 : flR T (ws.getD i 0) W = rstF T W ws i := by unfold flR rstF; rw [ok, if_pos rfl]
    rw [ok, e1, e2] at this; exact this
  have MS : Hid (0 ≤ T - sumTo (quoF T W ws) ws.length ∧ T - sumTo (quoF T W ws) ws.length ≤ ws.length ∧ ∀ k, k ≤ ws.length → 0 ≤ sumTo (quoF T W ws) k ∧ sumTo (quoF T W ws) k ≤ T) := ms
  have PL : Hid (∀ i, i < ws.length → 0 ≤ quoF T W ws i ∧ quoF T W ws i ≤ T) := pl
  have Q0 : Hid (∀ i, i < ws.length → quoF T W ws i ≤ sumTo (quoF T W ws) ws.length) := fun i hi => one_le (fun j hj => (pl j hj).1) hi
  have HC : Hid (∀ i, i < ws.length → w.cell? ⟨g, o + i, none⟩ = some (.int .i64 (ws.getD i 0))) := hc
  have BI : Hid (∀ k b, k < ws.length → Best (rsts (rstF T W ws) f k) ws.length b → b = f k) := fun k b hk hb => best_is sh hk hb
  have FLT : Hid (∀ i, i < ws.length → f i < ws.length) := sh.lt
  have INJ : Hid (∀ i j, i < j → j < ws.length → f i ≠ f j) := sh.inj
  have RS : Hid (∀ i, i < ws.length → 0 ≤ rstF T W ws i ∧ rstF T W ws i ≤ 9223372036854775807) := fun i _ => ⟨Int.emod_nonneg _ (by omega), by have := Int.emod_lt_of_pos (T * ws.getD i 0) W0; unfold rstF; omega⟩
  have PE : Hid (prt T W (fun i => ws.getD i 0) ws.length f = parts (quoF T W ws) f (T - sumTo (quoF T W ws) ws.length).toNat) := rfl
  rw [PE.out]
  clear ms pl hc sh hx PE hW ad
  generalize quoF T W ws = q at *
  generalize rstF T W ws = r at *
  obtain ⟨n, hn⟩ : ∃ n, ws.length = n := ⟨_, rfl⟩
  rw [hn] at h0 hl HA FL MS PL Q0 HC BI FLT INJ RS ⊢
  clear hn
  go_enter Tryd.func16, Tryd.ntmps16
  go_wp2_with fail
  refine (HA.out _ rfl).mono ?_
  rintro e w1 ⟨rfl, hw1⟩; rw [hw1]; clear hw1 w1 HA
  go_wp2
  go_loopw [8, 9, 10, 11] (fun pp rr mm ii wr => ∃ k : Nat, k ≤ n ∧ ii = .int .i64 (k : Int) ∧ mm = .int .i64 (T - sumTo q k) ∧ Below w.heap.size w wr ∧ Row 2 w.heap.size wr pp (lst q k) ∧ Row 2 w.heap.size wr rr (lst r k) ∧ Apart pp rr) (fun _ _ _ ii _ => n - (intOf ii).toNat)
  case atStart => exact ⟨0, by omega, rfl, by simp [sumTo], Below.refl _ _, Row.nil _ _ _, Row.nil _ _ _, fun g h => by cases h⟩
  case round =>
    obtain ⟨k, hk, rfl, rfl, hB, hP, hR, hap⟩ := hrel
    by_cases hlt : (k : Int) < (n : Int)
    · have cx := (hB.cell (p := ⟨g, o + k, none⟩) hg).trans (HC.out k (by omega))
      have FK : Hid (∀ w, Calls Tryd.prog 29 #[.int .i64 T, .int .i64 (ws.getD k 0), .int .i64 W] w fun e w' => e = .returned (.tuple #[.int .i64 (q k), .int .i64 (r k), .bool true]) ∧ Below w.heap.size w w') := FL.out k (by omega)
      have sk := MS.out.2.2 k (by omega)
      have sk1 := MS.out.2.2 (k + 1) (by omega)
      have pk := PL.out k (by omega)
      have ss : sumTo q (k + 1) = sumTo q k + q k := rfl
      rw [ss] at sk1
      have ep : Hid (lst q k ++ [q k] = lst q (k + 1)) := (lst_step q k).symm
      have er : Hid (lst r k ++ [r k] = lst r (k + 1)) := (lst_step r k).symm
      have SS : Hid (sumTo q (k + 1) = sumTo q k + q k) := ss
      clear ss
      generalize ws.getD k 0 = x at *
      generalize q k = qk at *
      generalize r k = rk at *
      generalize sumTo q k = sq at *
      go_wp2_with fail
      refine (FK.out _).mono ?_
      rintro e w2 ⟨rfl, hb2⟩
      have hB2 : Below w.heap.size w w2 := hB.trans (hb2.mono hB.size)
      have hP2 := hP.later hb2
      have hR2 := hR.later hb2
      have bz := hB2.size
      have l1 : (lst q k).length < 1099511627776 := by rw [lst_length]; omega
      have l2 : (lst r k).length < 1099511627776 := by rw [lst_length]; omega
      clear hB hP hR hb2 cx
      go_wp2_with (first | (at_builtin; refine wpList_push2 rfl (.tmp 44) (.tmp 46) 25 rfl 2 i0 Tryd.underlying25 hi hz0 hz1 hz2 w.heap.size w.heap.size w _ _ _ _ _ rfl hP2 hR2 hap hB2 (Nat.le_refl _) bz rfl l1 ?_; intro v3 w3 hP3 hR3 hap3 hB3 bz3; have hap3' := hap3.symm) | (at_builtin; refine wpList_push2 rfl (.tmp 48) (.tmp 50) 25 rfl 2 i0 Tryd.underlying25 hi hz0 hz1 hz2 w.heap.size w.heap.size w _ _ _ _ _ rfl hR3 hP3 hap3' hB3 (Nat.le_refl _) bz3 rfl l2 ?_; intro v4 w4 hR4 hP4 hap4 hB4 bz4))
      go_roundw
      case rel => exact ⟨k + 1, by omega, by go_num, by rw [SS.out]; go_num, hB4, by rw [← ep.out]; exact hP4, by rw [← er.out]; exact hR4, hap4.symm⟩
      case measure => simp [intOf]; omega
    · obtain rfl : k = n := by omega
      obtain ⟨gp, cp, rfl, bp, hcp, mcp, icp⟩ := hP.ic h0
      obtain ⟨gr, cr, rfl, br, hcr, mcr, icr⟩ := hR.ic h0
      have ne : gp ≠ gr := fun e => hap gp rfl (by rw [e]; rfl)
      have ICP : Hid (IC gp k wr (parts q f 0)) := by rw [parts_zero]; exact icp
      have ICR : Hid (IC gr k wr (rsts r f 0)) := by rw [rsts_zero]; exact icr
      have BB : Hid (Below w.heap.size w wr) := hB
      have MS2 := MS.out.1
      have MS3 := MS.out.2.1
      have MS4 := (MS.out.2.2 k (by omega)).1
      have SQ : Hid (∀ i, i < k → q i ≤ sumTo q k) := Q0.out
      clear hP hR hap icp icr HC FL MS Q0 hB hlt hk
      obtain ⟨M, hM⟩ : ∃ M, T - sumTo q k = M := ⟨_, rfl⟩
      rw [hM] at MS2 MS3 ⊢
      obtain ⟨N, rfl⟩ := Int.eq_ofNat_of_zero_le MS2
      have hN : N ≤ k := by omega
      rw [show ((N : Int)).toNat = N from rfl]
      go_wp2
      go_loopw [15, 16, 17] (fun kk _ _ wq => ∃ j : Nat, j ≤ N ∧ kk = .int .i64 (j : Int) ∧ Below w.heap.size w wq ∧ IC gp k wq (parts q f j) ∧ IC gr k wq (rsts r f j)) (fun kk _ _ _ => N - (intOf kk).toNat)
      case atStart => exact ⟨0, by omega, rfl, BB.out, ICP.out, ICR.out⟩
      case round =>
        obtain ⟨j, hj, rfl, hB, hP, hR⟩ := hrel
        by_cases hlt : (j : Int) < (N : Int)
        · have BJ : Hid (∀ b, Best (rsts r f j) k b → b = f j) := fun b hb => BI.out j b (by omega) hb
          have fj := FLT.out j (by omega)
          have pa : parts q f j (f j) = q (f j) := parts_at q f j fun i hi => INJ.out i j hi (by omega)
          have sq := SQ.out (f j) fj
          have pq := PL.out (f j) fj
          have RC : Hid (∀ i, i < k → wr.cell? ⟨gr, i, none⟩ = some (.int .i64 (rsts r f j i))) := fun i hi => hR.cell hi
          have cp1 := hP.cell fj
          rw [pa] at cp1
          have zp := hP.frozen (f j)
          have zr := hR.frozen (f j)
          have cr1 := hR.cell fj
          have NX : Hid (∀ m, Below w.heap.size w (((wr.drewN m).setCell ⟨gp, f j, none⟩ (.int .i64 (q (f j) + 1))).setCell ⟨gr, f j, none⟩ (.int .i64 (-1))) ∧ IC gp k (((wr.drewN m).setCell ⟨gp, f j, none⟩ (.int .i64 (q (f j) + 1))).setCell ⟨gr, f j, none⟩ (.int .i64 (-1))) (parts q f (j + 1)) ∧ IC gr k (((wr.drewN m).setCell ⟨gp, f j, none⟩ (.int .i64 (q (f j) + 1))).setCell ⟨gr, f j, none⟩ (.int .i64 (-1))) (rsts r f (j + 1))) := fun m => by
            have hP' : IC gp k (wr.drewN m) (parts q f j) := hP
            have hR' : IC gr k (wr.drewN m) (rsts r f j) := hR
            have hB' : Below w.heap.size w (wr.drewN m) := ⟨hB.os, hB.tape, hB.output, hB.size, hB.block⟩
            have p1 := hP'.set fj (q (f j) + 1)
            rw [parts_step] at p1
            have p2 := p1.other (w' := ((wr.drewN m).setCell ⟨gp, f j, none⟩ (.int .i64 (q (f j) + 1))).setCell ⟨gr, f j, none⟩ (.int .i64 (-1))) (Below.heap_setCell _ _ _ _ (by simp; omega))
            have r1 := hR'.other (w' := (wr.drewN m).setCell ⟨gp, f j, none⟩ (.int .i64 (q (f j) + 1))) (Below.heap_setCell _ _ _ _ (by simp; omega))
            have r2 := r1.set fj (-1)
            rw [rsts_step] at r2
            exact ⟨(hB'.setCell (by simpa using bp) _).setCell (by simpa using br) _, p2, r2⟩
          have qb : q (f j) + 1 ≤ T := by omega
          clear hP hR hB pa
          go_wp2
          go_loopw [16, 17] (fun bb ii wq => ∃ i b m : Nat, 1 ≤ i ∧ i ≤ k ∧ ii = .int .i64 (i : Int) ∧ bb = .int .i64 (b : Int) ∧ Best (rsts r f j) i b ∧ wq = wr.drewN m) (fun _ ii _ => k - (intOf ii).toNat)
          case atStart => exact ⟨1, 0, 0, by omega, by omega, rfl, rfl, Best.one _, rfl⟩
          case round =>
            obtain ⟨i, b, m, h1, h2, rfl, rfl, hbest, rfl⟩ := hrel
            by_cases hil : (i : Int) < (k : Int)
            · have hb1 := hbest.1
              have c1 := RC.out i (by omega)
              have c2 := RC.out b (by omega)
              have KP : Hid (¬ rsts r f j b < rsts r f j i → Best (rsts r f j) (i + 1) b) := hbest.keep
              have TK : Hid (rsts r f j b < rsts r f j i → Best (rsts r f j) (i + 1) i) := hbest.take
              clear hbest
              generalize rsts r f j i = ri at c1 KP TK
              generalize rsts r f j b = rb at c2 KP TK
              by_cases c : rb < ri
              · have nb := TK.out c
                have NB : Hid (Best (rsts r f j) (i + 1) i) := nb
                clear nb KP TK
                go_wp2
                go_quiet (fail)
                go_wp2
                go_roundw
                case rel => exact ⟨i + 1, i, _, by omega, by omega, by go_num, rfl, NB.out, rfl⟩
                case measure => simp [intOf]; omega
              · have NB : Hid (Best (rsts r f j) (i + 1) b) := KP.out c
                have c' : decide (rb < ri) = false := decide_eq_false c
                clear KP TK
                go_wp2
                go_quiet (fail)
                go_wp2
                go_roundw
                case rel => exact ⟨i + 1, b, _, by omega, by omega, by go_num, rfl, NB.out, rfl⟩
                case measure => simp [intOf]; omega
            · obtain rfl : i = k := by omega
              obtain rfl := BJ.out b hbest
              go_wp2
              go_roundw
              case rel => exact ⟨j + 1, by omega, by go_num, (NX.out m).1, (NX.out m).2.1, (NX.out m).2.2⟩
              case measure => simp [intOf]; omega
        · obtain rfl : j = N := by omega
          go_wp2
          go_ret2
          exact ⟨gp, cp, rfl, hcp, hB, hP, bp⟩

set_option maxHeartbeats 1000000 in
theorem whole_empty (T : Int) (a : Option Addr) (cap : Nat) (w : World) :
    Calls Tryd.prog 45 #[.int .i64 T, .slice a 0 cap] w fun e w' => e = .returned (.tuple #[.int .i64 0, .bool false]) ∧ w' = w := by
  by_cases t0 : T < 0
  · go_enter Tryd.func45, Tryd.ntmps45
    go_wp2
    go_ret2
    exact ⟨rfl, rfl⟩
  · have d0 : decide (T < 0) = false := decide_eq_false t0
    go_enter Tryd.func45, Tryd.ntmps45
    go_wp2
    go_ret2
    exact ⟨rfl, rfl⟩

set_option maxRecDepth 100000 in
set_option maxHeartbeats 1000000 in
theorem rsplit_no (T : Int) (v : Value) (w : World)
    (hA : ∀ w', w' = w → Calls Tryd.prog 45 #[.int .i64 T, v] w' fun e w'' => (∃ V, e = .returned (.tuple #[.int .i64 V, .bool false])) ∧ w'' = w') :
    Calls Tryd.prog 16 #[.int .i64 T, v] w fun e w' => e = .returned (.tuple #[.slice none 0 0, .bool false]) ∧ w' = w := by
  have HA : Hid (∀ w', w' = w → Calls Tryd.prog 45 #[.int .i64 T, v] w' fun e w'' => (∃ V, e = .returned (.tuple #[.int .i64 V, .bool false])) ∧ w'' = w') := hA
  clear hA
  go_enter Tryd.func16, Tryd.ntmps16
  go_wp2_with fail
  refine (HA.out _ rfl).mono ?_
  rintro e w1 ⟨⟨V, rfl⟩, hw1⟩; rw [hw1]; clear hw1 w1 HA
  go_wp2
  go_ret2
  exact ⟨rfl, rfl⟩

/-- The reference's Split, beside what money.Split has answered. -/
theorem rsplit_refused {T : Int} {w : World} {v : Value} {ws : List Int} (h : Reads w v ws) (hx : I64 ws) (hl : ws.length ≤ 1048576) (no : ¬ (0 ≤ T ∧ adOk ws = true)) :
    Calls Tryd.prog 16 #[.int .i64 T, v] w fun e w' => e = .returned (.tuple #[.slice none 0 0, .bool false]) ∧ w' = w := by
  rcases h with ⟨rfl, a, cap, rfl⟩ | ⟨h0, g, o, cap, rfl, _, hg, cell⟩
  · exact rsplit_no T _ w fun w' _ => (whole_empty T a cap w').mono fun e w'' ⟨h1, h2⟩ => ⟨⟨0, h1⟩, h2⟩
  · have hk : (decide (0 ≤ T) && adOk ws) = false := by
      by_cases t : 0 ≤ T
      · cases hk : adOk ws
        · simp
        · exact absurd ⟨t, hk⟩ no
      · simp [t]
    refine rsplit_no T _ w fun w' hw' => ?_
    subst hw'
    exact (whole_full T ws g o cap _ hx hl h0 cell).mono fun e w'' ⟨⟨V, he, _⟩, hw⟩ => ⟨⟨V, by rw [he, hk]⟩, hw⟩

end Go.Proofs.YtfdahdloihgjeacDoor
