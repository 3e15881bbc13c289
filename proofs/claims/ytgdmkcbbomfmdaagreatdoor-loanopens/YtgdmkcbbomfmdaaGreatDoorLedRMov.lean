/-
  Ours: the document's moves.
-/
import Derived.Test.YtgdmkcbbomfmdaaGreatDoorLedPost
import Derived.Test.YtgdmkcbbomfmdaaGreatDoorLedCat
import Derived.Test.YtgdmkcbbomfmdaaGreatDoorLedRTrial
namespace Go.Proofs.YtgdmkcbbomfmdaaGreatDoor
open Go.RowKit LedM

namespace LedM
theorem postE_zero {l : List Int} {es : List Ent} : postE l es = 0 ↔ faultE es = 0 ∧ fitsL (moved l es) = true ∧ rangeB (moved l es) = true ∧ sidesB (moved l es) = true := by
  unfold postE
  constructor
  · intro h
    split at h
    · rename_i h0
      split at h
      · rename_i h1
        split at h
        · rename_i h2
          simp only [Bool.and_eq_true] at h1
          exact ⟨h0, h1.1, h1.2, h2⟩
        · cases h
      · cases h
    · rename_i h0; exact absurd h h0
  · rintro ⟨a, b, c, d⟩
    rw [if_pos a, b, c, d]; rfl
theorem postB_zero {l : List Int} {es : List Ent} (h : postE l es = 0) : postB l es = moved l es := by unfold postB; rw [if_pos h]
theorem moved_moved (l : List Int) (es fs : List Ent) : moved (moved l es) fs = moved l (es ++ fs) :=
  ext12 (moved_len _ _) (moved_len _ _) (fun j hj => by rw [moved_at _ _ j hj, moved_at _ _ j hj, moved_at _ _ j hj, mv_append]; omega)
theorem post_join {l : List Int} {es fs : List Ent} (h1 : postE l es = 0) (h2 : postE (postB l es) fs = 0) : postE l (es ++ fs) = 0 ∧ postB l (es ++ fs) = postB (postB l es) fs := by
  have e1 := postB_zero h1
  have e2 := postB_zero h2
  rw [e1] at h2 e2
  obtain ⟨a, b, c, d⟩ := postE_zero.1 h2
  rw [moved_moved] at b c d
  have h3 : postE l (es ++ fs) = 0 := postE_zero.2 ⟨fault_all (fun e he => by
    rcases List.mem_append.1 he with he | he
    · exact fault_zero (postE_zero.1 h1).1 e he
    · exact fault_zero a e he), b, c, d⟩
  refine ⟨h3, ?_⟩
  rw [postB_zero h3, e1, e2, moved_moved]
end LedM
end Go.Proofs.YtgdmkcbbomfmdaaGreatDoor

namespace Go.Proofs.YtgdmkcbbomfmdaaGreatDoor
open Go.RowKit LedM

set_option maxHeartbeats 1000000 in
theorem refused_at (x : Ent) (w : World) : Calls Tryz.prog 55 #[.agg (entL x).toArray] w fun e w' => e = .returned (.int .i64 (entE x)) ∧ Below w.heap.size w w' := by
  have KN : Hid (∀ (a : Int) (w : World), Calls Tryz.prog 97 #[.int .i64 a] w fun e w' => e = .returned (.bool (isA a)) ∧ w' = w) := fun a w => ris_at a w
  have NB := Blk.new 79 (entL x) w
  have FIN : Hid (Below w.heap.size w (w.alloc (.cells (entL x).toArray 79))) := below_alloc _ _
  obtain ⟨xd, xc, xa⟩ := x
  have c0 := NB.cell 0 _ rfl
  have c1 := NB.cell 1 _ rfl
  have c2 := NB.cell 2 _ rfl
  have EE : Hid (entE ⟨xd, xc, xa⟩ = if !isA xd || !isA xc || xd == xc then 80 else if xa < 1 then 4 else 0) := rfl
  obtain ⟨R, HR⟩ : ∃ R, Hid (entE ⟨xd, xc, xa⟩ = R) := ⟨_, rfl⟩
  rw [HR.out]
  have FE : Hid ((if !isA xd || !isA xc || xd == xc then 80 else if xa < 1 then 4 else 0) = R) := HR.out
  clear NB HR EE
  generalize entL ⟨xd, xc, xa⟩ = cs at *
  go_enter Tryz.func55, Tryz.ntmps55
  go_wp2_with fail
  refine (KN.out _ _).mono ?_
  rintro e w3 ⟨rfl, rfl⟩
  generalize isA xd = ad at *
  cases ad
  · obtain rfl : R = 80 := by have := FE.out; simpa using this.symm
    go_wp2_with fail
    go_ret
    exact ⟨rfl, FIN.out⟩
  · go_wp2_with fail
    refine (KN.out _ _).mono ?_
    rintro e w3 ⟨rfl, rfl⟩
    generalize isA xc = ac at *
    cases ac
    · obtain rfl : R = 80 := by have := FE.out; simpa using this.symm
      go_wp2_with fail
      go_ret
      exact ⟨rfl, FIN.out⟩
    · obtain ⟨q, hq⟩ : ∃ q, (xd == xc) = q := ⟨_, rfl⟩
      cases q
      · by_cases ha : xa < 1
        · obtain rfl : R = 4 := by have := FE.out; rw [hq] at this; simp [ha] at this; exact this.symm
          have d1 : decide (xa < 1) = true := decide_eq_true ha
          go_wp2_with fail
          go_ret
          exact ⟨rfl, FIN.out⟩
        · obtain rfl : R = 0 := by have := FE.out; rw [hq] at this; simp [ha] at this; exact this.symm
          have d1 : decide (xa < 1) = false := decide_eq_false ha
          clear ha
          go_wp2_with fail
          go_ret
          exact ⟨rfl, FIN.out⟩
      · obtain rfl : R = 80 := by have := FE.out; rw [hq] at this; simpa using this.symm
        go_wp2_with fail
        go_ret
        exact ⟨rfl, FIN.out⟩

theorem LedM.ownB_yes {j : Nat} {x : Int} (h : isD (j : Int) = true) : decide (0 ≤ x) = ownB j x := by
  unfold ownB
  rw [h]
  by_cases a : x = 0
  · subst a; rfl
  · rw [beq_eq_false_iff_ne.2 a]
    by_cases b : 0 < x
    · rw [decide_eq_true b, decide_eq_true (show 0 ≤ x by omega)]; rfl
    · rw [decide_eq_false b, decide_eq_false (show ¬ 0 ≤ x by omega)]; rfl
theorem LedM.ownB_no {j : Nat} {x : Int} (h : isD (j : Int) = false) : decide (x ≤ 0) = ownB j x := by
  unfold ownB
  rw [h]
  by_cases a : x = 0
  · subst a; rfl
  · rw [beq_eq_false_iff_ne.2 a]
    by_cases b : 0 < x
    · rw [decide_eq_true b, decide_eq_false (show ¬ x ≤ 0 by omega)]; rfl
    · rw [decide_eq_false b, decide_eq_true (show x ≤ 0 by omega)]; rfl

set_option maxHeartbeats 1000000 in
theorem rown_at (j : Nat) (x : Int) (w : World) : Calls Tryz.prog 58 #[.int .i64 (j : Int), .int .i64 x] w fun e w' => e = .returned (.bool (ownB j x)) ∧ w' = w := by
  have DB : Hid (∀ w, Calls Tryz.prog 101 #[.int .i64 (j : Int)] w fun e w' => e = .returned (.bool (isD (j : Int))) ∧ w' = w) := fun w => rdebits_at _ w
  have OY : Hid (isD (j : Int) = true → decide (0 ≤ x) = ownB j x) := fun h => ownB_yes h
  have ON : Hid (isD (j : Int) = false → decide (x ≤ 0) = ownB j x) := fun h => ownB_no h
  generalize ownB j x = r at *
  generalize isD (j : Int) = b at *
  generalize (j : Int) = a at *
  go_enter Tryz.func58, Tryz.ntmps58
  go_wp2_with fail
  refine (DB.out _).mono ?_
  rintro e w1 ⟨rfl, rfl⟩
  cases b
  · go_wp2_with fail
    go_ret
    refine ⟨?_, rfl⟩
    rw [← ON.out (by first | rfl | trivial)]; rfl
  · go_wp2_with fail
    go_ret
    refine ⟨?_, rfl⟩
    rw [← OY.out (by first | rfl | trivial)]; rfl
end Go.Proofs.YtgdmkcbbomfmdaaGreatDoor

namespace Go.Proofs.YtgdmkcbbomfmdaaGreatDoor
open Go.RowKit LedM

namespace LedM
def mvp (e : Ent) (j : Int) : List Int := (if e.d = j then [e.a] else []) ++ (if e.c = j then [-e.a] else [])
def mvs (x : Int) : List Ent → Int → List Int := fun es j => x :: es.flatMap (mvp · j)
theorem mvs_push (x : Int) (es : List Ent) (e : Ent) (j : Int) : mvs x (es ++ [e]) j = mvs x es j ++ mvp e j := by simp [mvs]
theorem mvp_len (e : Ent) (j : Int) : (mvp e j).length ≤ 2 := by unfold mvp; split <;> split <;> simp
theorem mvs_len (x : Int) (es : List Ent) (j : Int) : (mvs x es j).length ≤ 1 + 2 * es.length := by
  induction es with
  | nil => simp [mvs]
  | cons e es ih =>
    have := mvp_len e j
    simp only [mvs, List.flatMap_cons, List.length_cons, List.length_append] at ih ⊢
    omega
theorem mvs_total (x : Int) (es : List Ent) (j : Int) : total (mvs x es j) = x + mv es j := by
  have : ∀ es : List Ent, total (es.flatMap (mvp · j)) = mv es j := by
    intro es
    induction es with
    | nil => rfl
    | cons e es ih =>
      rw [List.flatMap_cons, total_append, ih]
      show _ = total (mv1 e j :: es.map fun e => mv1 e j)
      show _ = mv1 e j + mv es j
      congr 1
      unfold mvp mv1
      split <;> split <;> simp [total] <;> omega
  show x + total _ = _
  rw [this]
end LedM

set_option maxHeartbeats 2000000 in
theorem moves_at (l : List Int) (es : List Ent) (j : Nat) (v : Value) (w : World) (hl : BkOk l) (hes : ∀ e ∈ es, EntOk e ∧ entE e = 0) (hn : es.length ≤ 1048576) (hj : j < 12) (h : RdE w v es) :
    Calls Tryz.prog 57 #[.agg (bkL l).toArray, v, .int .i64 (j : Int)] w fun e w' => ∃ v2, e = .returned v2 ∧ RowV 2 (w.heap.size + 1) w' v2 (bkL (mvs (l.getD j 0) es (j : Int))) ∧ Below w.heap.size w w' := by
  obtain ⟨i0, hi, hz0, hz1, hz2⟩ := info_parts infoL
  have RD : Hid (∀ w', Below w.heap.size w w' → RdE w' v es) := fun w' hb => h.later hb
  obtain ⟨ao, cap, rfl, hcap, hno, _⟩ := h
  have CE : Hid (∀ w', Below w.heap.size w w' → ∀ i, i < es.length → ∃ g o, ao = some ⟨g, o, none⟩ ∧ w'.rangeAt g (o + i * 3) (entL (eN es i))) := fun w' hb i hi => by
    obtain ⟨ao', cap', e, _, _, H⟩ := RD.out w' hb
    injection e with e1 e2 e3
    subst e1
    obtain ⟨g, o, e, _, r⟩ := H i hi
    exact ⟨g, o, e, r⟩
  obtain ⟨L, hL⟩ : ∃ L, es.length = L := ⟨_, rfl⟩
  have HE : Hid (∀ i, i < L → EntOk (eN es i) ∧ entE (eN es i) = 0) := fun i hi => by rw [eN_at (by omega)]; exact hes _ (List.getElem_mem _)
  obtain ⟨x, hx⟩ : ∃ x, l.getD j 0 = x := ⟨_, rfl⟩
  have PU : Hid (∀ i, i < L → mvs x (es.take (i + 1)) (j : Int) = mvs x (es.take i) (j : Int) ++ mvp (eN es i) (j : Int)) := fun i hi => by rw [take_eN (by omega), mvs_push]
  have LB : Hid (∀ i, i ≤ L → (bkL (mvs x (es.take i) (j : Int))).length ≤ 1 + 2 * i) := fun i hi => by
    have := mvs_len x (es.take i) (j : Int)
    rw [List.length_take] at this
    rw [bkL_len]; omega
  have HF : Hid (es.take L = es) := List.take_of_length_le (by omega)
  rw [hL] at hcap hn CE ⊢
  have nb0 := Blk.new 31 (bkL l) w
  have c0 := nb0.cell j _ (bkL_at (by rw [hl.1]; exact hj))
  rw [hx] at c0 ⊢
  have BB0 : Hid (Below w.heap.size w (w.alloc (.cells (bkL l).toArray 31))) := below_alloc w _
  have sz0 : w.heap.size + 1 ≤ (w.alloc (.cells (bkL l).toArray 31)).heap.size := nb0.lt
  have SZ0 : Hid (w.heap.size + 1 ≤ (w.alloc (.cells (bkL l).toArray 31)).heap.size) := sz0
  have HS : Hid ((w.alloc (.cells (bkL l).toArray 31)).heap.size = w.heap.size + 1) := by show _ = _; simp
  have L1 : Hid (([] : List Value).length + 1 ≤ maxLen) := by show _ ≤ _; unfold maxLen; simp
  have L2 : Hid ((([] : List Value).length + 1) * 8 ≤ 140737488355328) := by show _ ≤ _; simp
  have hj2 : (j : Int) < 12 := by omega
  clear nb0 hl hes RD hL hx sz0
  generalize bkL l = cs at *
  go_enter Tryz.func57, Tryz.ntmps57
  go_wp2_with (at_builtin; go_loud (refine wpList_pushN rfl (.tmp 9) (.tmp 14) 115 rfl 2 i0 (.int .i64 0) 8 Tryz.underlying115 hi hz0 hz1 hz2 rfl (w.heap.size + 1) (.slice none 0 0) [] _ rfl rfl (RowV.nil _ _ _) SZ0.out (by show Go.Value.slice (some ⟨w.heap.size + 1, 0, none⟩) 1 1 = _; rw [HS.out]) L1.out L2.out ?_; intro v' w1 r1 g1 n1))
  have R0 : Hid (RowV 2 (w.heap.size + 1) w1 v' (bkL (mvs x (es.take 0) (j : Int))) ∧ Below w.heap.size w w1 ∧ w.heap.size + 1 ≤ w1.heap.size) := ⟨r1, BB0.out.grown g1 BB0.out.size (fun g hg => by cases hg), Nat.le_trans SZ0.out g1.size⟩
  clear r1 g1 n1 BB0 SZ0 c0 L1 L2
  go_loopw [7, 8] (fun u vk wr => ∃ k : Nat, vk = .int .i64 (k : Int) ∧ k ≤ L ∧ RowV 2 (w.heap.size + 1) wr u (bkL (mvs x (es.take k) (j : Int))) ∧ Below w.heap.size w wr ∧ w.heap.size + 1 ≤ wr.heap.size) (fun _ vk _ => L - (intOf vk).toNat)
  case atStart => exact ⟨0, rfl, by omega, R0.out.1, R0.out.2.1, R0.out.2.2⟩
  case round =>
    clear R0
    obtain ⟨k, rfl, hk, ru, bb, sz⟩ := hrel
    have RU : Hid (RowV 2 (w.heap.size + 1) wr u7 (bkL (mvs x (es.take k) (j : Int)))) := ru
    have BB : Hid (Below w.heap.size w wr ∧ w.heap.size + 1 ≤ wr.heap.size) := ⟨bb, sz⟩
    have lb := LB.out k hk
    have l1 : (bkL (mvs x (es.take k) (j : Int))).length + 1 ≤ maxLen := by unfold maxLen; omega
    have l2 : ((bkL (mvs x (es.take k) (j : Int))).length + 1) * 8 ≤ 140737488355328 := by omega
    clear lb ru sz
    by_cases hlt : (k : Int) < (L : Int)
    · obtain ⟨g, o, rfl, rg⟩ := CE.out wr bb k (by omega)
      have CW : Hid (∀ w', Below w.heap.size w w' → w'.rangeAt g (o + k * 3) (entL (eN es k))) := fun w' hb => by
        obtain ⟨g', o', e, r⟩ := CE.out w' hb k (by omega)
        injection e with e
        injection e with e1 e2
        subst e1 e2
        exact r
      have he := HE.out k (by omega)
      have pu := PU.out k (by omega)
      clear bb rg CE HE PU
      generalize eN es k = y at *
      obtain ⟨yd, yc, ya⟩ := y
      obtain ⟨_, _, hne, ha1⟩ := entE_zero he.2
      have hao := he.1.2.2
      have e2 : Hid (wrap64 (-ya) = -ya) := by show _ = _; unfold wrap64; have h1 := hao.1; have h2 := hao.2; have h3 : 1 ≤ ya := ha1; have h1 : -9223372036854775808 ≤ ya := h1; have h2 : ya ≤ 9223372036854775807 := h2; omega
      have CC : Hid (∀ w', Below w.heap.size w w' → w'.cell? ⟨g, o + k * 3, none⟩ = some (.int .i64 yd) ∧ w'.cell? ⟨g, o + k * 3 + 1, none⟩ = some (.int .i64 yc) ∧ w'.cell? ⟨g, o + k * 3 + 2, none⟩ = some (.int .i64 ya)) := fun w' hb => ⟨CW.out w' hb 0 _ rfl, CW.out w' hb 1 _ rfl, CW.out w' hb 2 _ rfl⟩
      have PY : Hid (yd = (j : Int) → bkL (mvs x (es.take (k + 1)) (j : Int)) = bkL (mvs x (es.take k) (j : Int)) ++ [.int .i64 ya]) := fun hd => by
        have hd : yd = (j : Int) := hd
        have hc : ¬ yc = (j : Int) := fun e => hne (hd.trans e.symm)
        rw [pu]; simp [mvp, hd, hc, bkL]
      have PC : Hid (yd ≠ (j : Int) → yc = (j : Int) → bkL (mvs x (es.take (k + 1)) (j : Int)) = bkL (mvs x (es.take k) (j : Int)) ++ [.int .i64 (-ya)]) := fun hd hc => by
        rw [pu]; simp [mvp, hd, hc, bkL]
      have PN : Hid (yd ≠ (j : Int) → yc ≠ (j : Int) → bkL (mvs x (es.take (k + 1)) (j : Int)) = bkL (mvs x (es.take k) (j : Int))) := fun hd hc => by
        rw [pu]; simp [mvp, hd, hc]
      have NE : Hid (yd = (j : Int) → (yc == (j : Int)) = false) := fun hd => by
        have hc : ¬ yc = (j : Int) := fun e => hne (Eq.trans hd e.symm)
        exact beq_eq_false_iff_ne.2 hc
      clear he hne ha1 hao CW pu
      have cc := CC.out wr BB.out.1
      obtain ⟨c0, c1, c2⟩ := cc
      generalize bkL (mvs x (es.take k) (j : Int)) = us at *
      have ge : Hid (∀ g, u7.ownBlock = some g → w.heap.size + 1 ≤ g) := fun g hg => RU.out.block_ge hg
      by_cases hd : yd = (j : Int)
      · have EA : Hid (bkL (mvs x (es.take (k + 1)) (j : Int)) = us ++ [.int .i64 ya]) := PY.out hd
        have d1 : (yd == (j : Int)) = true := beq_iff_eq.2 hd
        have d2 : (yc == (j : Int)) = false := NE.out hd
        clear PY PC PN NE hd
        go_wp2_with (at_builtin; refine wpList_pushN rfl (.tmp 29) (.tmp 35) 115 rfl 2 i0 (.int .i64 0) 8 Tryz.underlying115 hi hz0 hz1 hz2 rfl (w.heap.size + 1) u7 us _ rfl rfl RU.out BB.out.2 rfl l1 l2 ?_; intro v' w1 r1 g1 n1; have B1 : Hid (Below w.heap.size w w1) := BB.out.1.grown g1 BB.out.1.size (fun g hg => by have := ge.out g hg; omega); have cd := CC.out w1 B1.out; obtain ⟨c3, c4, c5⟩ := cd; have R1 : Hid (RowV 2 (w.heap.size + 1) w1 v' (us ++ [.int .i64 ya]) ∧ w.heap.size + 1 ≤ w1.heap.size) := ⟨r1, Nat.le_trans BB.out.2 g1.size⟩; clear r1 g1 n1)
        go_roundw
        case rel => exact ⟨k + 1, by go_num, by omega, by rw [EA.out]; exact R1.out.1, B1.out, R1.out.2⟩
        case measure => simp [intOf]; omega
      · have d1 : (yd == (j : Int)) = false := beq_eq_false_iff_ne.2 hd
        by_cases hc : yc = (j : Int)
        · have EA : Hid (bkL (mvs x (es.take (k + 1)) (j : Int)) = us ++ [.int .i64 (-ya)]) := PC.out hd hc
          have d2 : (yc == (j : Int)) = true := beq_iff_eq.2 hc
          clear PY PC PN NE hd hc
          go_wp2_with (at_builtin; refine wpList_pushN rfl (.tmp 44) (.tmp 51) 115 rfl 2 i0 (.int .i64 0) 8 Tryz.underlying115 hi hz0 hz1 hz2 rfl (w.heap.size + 1) u7 us _ rfl rfl RU.out BB.out.2 rfl l1 l2 ?_; intro v' w1 r1 g1 n1; have B1 : Hid (Below w.heap.size w w1) := BB.out.1.grown g1 BB.out.1.size (fun g hg => by have := ge.out g hg; omega); have R1 : Hid (RowV 2 (w.heap.size + 1) w1 v' (us ++ [.int .i64 (-ya)]) ∧ w.heap.size + 1 ≤ w1.heap.size) := ⟨by first | exact r1 | (rw [e2.out] at r1; exact r1), Nat.le_trans BB.out.2 g1.size⟩; clear r1 g1 n1)
          go_roundw
          case rel => exact ⟨k + 1, by go_num, by omega, by rw [EA.out]; exact R1.out.1, B1.out, R1.out.2⟩
          case measure => simp [intOf]; omega
        · have EA : Hid (bkL (mvs x (es.take (k + 1)) (j : Int)) = us) := PN.out hd hc
          have d2 : (yc == (j : Int)) = false := beq_eq_false_iff_ne.2 hc
          clear PY PC PN NE hd hc
          go_wp2_with fail
          go_roundw
          case rel => exact ⟨k + 1, by go_num, by omega, by rw [EA.out]; exact RU.out, BB.out.1, BB.out.2⟩
          case measure => simp [intOf]; omega
    · obtain rfl : k = L := by omega
      have RF : Hid (RowV 2 (w.heap.size + 1) wr u7 (bkL (mvs x es (j : Int)))) := by have := RU.out; rw [HF.out] at this; exact this
      clear RU
      go_wp2_with fail
      go_ret
      exact ⟨_, rfl, RF.out, BB.out.1⟩
end Go.Proofs.YtgdmkcbbomfmdaaGreatDoor
