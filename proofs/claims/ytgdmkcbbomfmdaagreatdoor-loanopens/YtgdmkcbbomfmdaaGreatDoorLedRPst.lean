/-
  Ours: the document's Post.
-/
import Derived.Test.YtgdmkcbbomfmdaaGreatDoorLedRMov
namespace Go.Proofs.YtgdmkcbbomfmdaaGreatDoor
open Go.RowKit LedM

namespace LedM
theorem i64_of {l : List Int} (h : ∀ x ∈ l, i64 x) : I64 l := fun k => by
  by_cases hk : k < l.length
  · exact h _ (getD_mem k hk)
  · rw [List.getD_eq_getElem?_getD, List.getElem?_eq_none (by omega)]; exact ⟨by simp, by simp⟩
theorem mvs_i64 {x : Int} {es : List Ent} (j : Int) (hx : i64 x) (hes : ∀ e ∈ es, EntOk e ∧ entE e = 0) : I64 (mvs x es j) := i64_of fun y hy => by
  unfold mvs at hy
  rcases List.mem_cons.1 hy with rfl | hy
  · exact hx
  · obtain ⟨e, he, hm⟩ := List.mem_flatMap.1 hy
    obtain ⟨ok, z⟩ := hes e he
    obtain ⟨_, _, _, h1⟩ := entE_zero z
    have h2 := ok.2.2
    unfold i64 at h2 ⊢
    unfold mvp at hm
    rcases List.mem_append.1 hm with hm | hm
    · split at hm
      · simp at hm; subst hm; exact h2
      · simp at hm
    · split at hm
      · simp at hm; subst hm; omega
      · simp at hm
end LedM

set_option maxRecDepth 20000 in
set_option maxHeartbeats 800000 in
theorem rpost_at (l : List Int) (es : List Ent) (v : Value) (w : World) (hl : BkOk l) (hes : ∀ e ∈ es, EntOk e) (hn : es.length ≤ 1048576) (h : RdE w v es) :
    Calls Tryz.prog 40 #[.agg (bkL l).toArray, v] w fun e w' => e = .returned (.tuple #[.agg (bkL (postB l es)).toArray, .int .i64 (postE l es)]) ∧ Below w.heap.size w w' := by
  have S0 : St w w.heap.size l ((w.alloc (.cells (bkL l).toArray 31)).alloc (.cells #[Value.int .i64 0, Value.int .i64 0, Value.int .i64 0, Value.int .i64 0, Value.int .i64 0, Value.int .i64 0, Value.int .i64 0, Value.int .i64 0, Value.int .i64 0, Value.int .i64 0, Value.int .i64 0, Value.int .i64 0] 31)) := ⟨(Blk.new 31 (bkL l) w).old _, Blk.new2 31 (bkL zeroL) w _, (below_alloc w _).alloc (by simp) _⟩
  have RF : Hid (∀ x w', Calls Tryz.prog 55 #[.agg (entL x).toArray] w' fun e w2 => e = .returned (.int .i64 (entE x)) ∧ Below w'.heap.size w' w2) := fun x w' => refused_at x w'
  have OS : Hid (∀ (j : Nat) (x : Int) w', Calls Tryz.prog 58 #[.int .i64 (j : Int), .int .i64 x] w' fun e w2 => e = .returned (.bool (ownB j x)) ∧ w2 = w') := fun j x w' => rown_at j x w'
  have MV : Hid (faultE es = 0 → ∀ w', Below w.heap.size w w' → ∀ j : Nat, j < 12 → Calls Tryz.prog 57 #[.agg (bkL l).toArray, v, .int .i64 (j : Int)] w' fun e w2 => ∃ v2, e = .returned v2 ∧ Below w'.heap.size w' w2 ∧ Calls Tryz.prog 56 #[v2] w2 fun e w3 => e = .returned (.tuple #[.int .i64 (smV ((moved l es).getD j 0)), .bool (smOk ((moved l es).getD j 0))]) ∧ w3 = w2) := fun hz w' hb j hj => by
    have he : ∀ e ∈ es, EntOk e ∧ entE e = 0 := fun e hm => ⟨hes e hm, fault_zero hz e hm⟩
    refine (moves_at l es j v w' hl he hn hj (h.later hb)).mono fun e w2 ⟨v2, a, b, c⟩ => ⟨v2, a, c, ?_⟩
    have := rsum_row b (mvs_i64 (j : Int) (hl.2 j) he) (by have := mvs_len (l.getD j 0) es (j : Int); omega)
    rw [mvs_total] at this
    rw [moved_at _ _ j hj]
    exact this
  have RD : Hid (∀ w', Below w.heap.size w w' → RdE w' v es) := fun w' hb => h.later hb
  obtain ⟨ao, cap, rfl, hcap, hno, _⟩ := h
  have CE : Hid (∀ w', Below w.heap.size w w' → ∀ i, i < es.length → ∃ g o, ao = some ⟨g, o, none⟩ ∧ w'.rangeAt g (o + i * 3) (entL (eN es i))) := fun w' hb i hi => by
    obtain ⟨ao', cap', e, _, _, H⟩ := RD.out w' hb
    injection e with e1 e2 e3
    subst e1
    obtain ⟨g, o, e, _, r⟩ := H i hi
    exact ⟨g, o, e, r⟩
  obtain ⟨L, hL⟩ : ∃ L, es.length = L := ⟨_, rfl⟩
  have DR : Hid (∀ i, i < L → faultE (es.drop i) = if entE (eN es i) = 0 then faultE (es.drop (i + 1)) else entE (eN es i)) := fun i hi => by rw [drop_eN (by omega)]; rfl
  have DE : Hid (faultE (es.drop L) = 0) := by show _ = _; rw [List.drop_eq_nil_of_le (by omega)]; rfl
  rw [hL] at hcap hn CE MV RD ⊢
  obtain ⟨R, HR⟩ : ∃ R, Hid (postE l es = R) := ⟨_, rfl⟩
  obtain ⟨B, HB⟩ : ∃ B, Hid (postB l es = B) := ⟨_, rfl⟩
  rw [HR.out, HB.out]
  have LL : Hid (l.length = 12) := hl.1
  have PF : Hid (faultE es ≠ 0 → R = faultE es ∧ l = B) := fun hf => by
    have er : R = faultE es := by have := HR.out; unfold postE at this; rw [if_neg hf] at this; exact this.symm
    refine ⟨er, ?_⟩
    have := HB.out; unfold postB at this; rw [HR.out, er, if_neg hf] at this; exact this
  have PR : Hid (faultE es = 0 → (fitsL (moved l es) && rangeB (moved l es)) = false → R = 3 ∧ l = B) := fun hf hr => by
    have er : R = 3 := by have := HR.out; unfold postE at this; rw [if_pos hf, hr] at this; exact this.symm
    refine ⟨er, ?_⟩
    have := HB.out; unfold postB at this; rw [HR.out, er, if_neg (by omega)] at this; exact this
  have PS : Hid (faultE es = 0 → (fitsL (moved l es) && rangeB (moved l es)) = true → sidesB (moved l es) = false → R = 81 ∧ l = B) := fun hf hr hs => by
    have er : R = 81 := by have := HR.out; unfold postE at this; rw [if_pos hf, hr, hs] at this; exact this.symm
    refine ⟨er, ?_⟩
    have := HB.out; unfold postB at this; rw [HR.out, er, if_neg (by omega)] at this; exact this
  have PO : Hid (faultE es = 0 → (fitsL (moved l es) && rangeB (moved l es)) = true → sidesB (moved l es) = true → R = 0 ∧ moved l es = B) := fun hf hr hs => by
    have er : R = 0 := by have := HR.out; unfold postE at this; rw [if_pos hf, hr, hs] at this; exact this.symm
    refine ⟨er, ?_⟩
    have := HB.out; unfold postB at this; rw [HR.out, er, if_pos rfl] at this; exact this
  have LM : Hid ((moved l es).length = 12) := moved_len _ _
  obtain ⟨m, hm⟩ : ∃ m, moved l es = m := ⟨_, rfl⟩
  rw [hm] at PR PS PO MV LM
  clear hes hL RD hl HR HB hm
  go_enter Tryz.func40, Tryz.ntmps40
  go_upto_region 1 with fail
  generalize (w.alloc (.cells (bkL l).toArray 31)).alloc (.cells #[Value.int .i64 0, Value.int .i64 0, Value.int .i64 0, Value.int .i64 0, Value.int .i64 0, Value.int .i64 0, Value.int .i64 0, Value.int .i64 0, Value.int .i64 0, Value.int .i64 0, Value.int .i64 0, Value.int .i64 0] 31) = w2 at *
  obtain ⟨Q, hQ⟩ : ∃ Q, w.heap.size = Q := ⟨_, rfl⟩
  have HQ : Hid (w.heap.size = Q) := hQ
  have S1 : Hid (St w Q l w2) := by rw [← hQ]; exact S0
  rw [hQ]
  clear hQ S0
  go_wp2_with fail
  go_loopw [6, 7] (fun vk _ wr => ∃ k : Nat, vk = .int .i64 (k : Int) ∧ k ≤ L ∧ Hid (faultE es = faultE (es.drop k)) ∧ St w Q l wr) (fun vk _ _ => L - (intOf vk).toNat)
  case atStart => exact ⟨0, rfl, by omega, rfl, S1.out⟩
  case round =>
    clear S1
    obtain ⟨k, rfl, hk, FK, st⟩ := hrel
    by_cases hlt : (k : Int) < (L : Int)
    · obtain ⟨g, o, rfl, rg⟩ := CE.out wr st.bb k (by omega)
      have RG : Hid (wr.rangeAt g (o + k * 3) (entL (eN es k))) := rg
      have ST : Hid (St w Q l wr) := st
      have FE : Hid (faultE es = if entE (eN es k) = 0 then faultE (es.drop (k + 1)) else entE (eN es k)) := FK.out.trans (DR.out k (by omega))
      clear rg st FK CE DR DE PR PS PO MV OS
      generalize eN es k = x at *
      go_wp2_with (refine step_load rfl 79 _ rfl g (o + k * 3) rfl (entL x) _ RG.out Tryz.underlying79 rfl (infoE _) ?_)
      refine (RF.out _ _).mono ?_
      rintro e w3 ⟨rfl, b3⟩
      have S3 : Hid (St w Q l w3) := ST.out.below b3
      clear ST b3 RG
      generalize entE x = ee at *
      by_cases hz : ee = 0
      · have FN : Hid (faultE es = faultE (es.drop (k + 1))) := by have := FE.out; rw [if_pos hz] at this; exact this
        subst hz
        clear FE PF
        go_wp2_with fail
        go_roundw
        case rel => exact ⟨k + 1, by go_num, by omega, FN.out, S3.out⟩
        case measure => simp [intOf]; omega
      · obtain ⟨er, eb⟩ : R = ee ∧ l = B := by
          have fe := FE.out
          rw [if_neg hz] at fe
          have := PF.out (by rw [fe]; exact hz)
          rw [fe] at this
          exact this
        have ef : (ee != 0) = true := bne_iff_ne.2 hz
        clear hz FE PF
        subst er eb
        go_wp2_with (first
          | (refine step_load rfl 31 _ rfl Q 0 rfl (bkL l) _ S3.out.bk.all Tryz.underlying31 rfl (infoBl LL.out) ?_)
          | (refine step_store rfl 31 _ _ rfl (Q + 1) 0 31 (bkL zeroL) (bkL l) rfl rfl S3.out.rs (by rw [bkL_len, LL.out]; exact Nat.le_refl _) (infoBl LL.out) (bkL_one _) ?_; intro w9 nb9 g9))
        rw [store_all (by rw [bkL_len, LL.out]; rfl)] at nb9
        refine ret_blk_tmp rfl rfl (Q + 1) 31 (bkL l) _ rfl nb9 Tryz.underlying31 rfl (infoBl LL.out) ?_
        exact ⟨rfl, below_row S3.out.bb g9 (by have := HQ.out; omega)⟩
    · obtain rfl : k = L := by omega
      have FZ : Hid (faultE es = 0) := FK.out.trans DE.out
      have MZ : Hid (∀ w', Below w.heap.size w w' → ∀ j : Nat, j < 12 → Calls Tryz.prog 57 #[.agg (bkL l).toArray, .slice ao k cap, .int .i64 (j : Int)] w' fun e w2 => ∃ v2, e = .returned v2 ∧ Below w'.heap.size w' w2 ∧ Calls Tryz.prog 56 #[v2] w2 fun e w3 => e = .returned (.tuple #[.int .i64 (smV (m.getD j 0)), .bool (smOk (m.getD j 0))]) ∧ w3 = w2) := MV.out FZ.out
      have PR1 : Hid ((fitsL m && rangeB m) = false → R = 3 ∧ l = B) := PR.out FZ.out
      have PS1 : Hid ((fitsL m && rangeB m) = true → sidesB m = false → R = 81 ∧ l = B) := PS.out FZ.out
      have PO1 : Hid ((fitsL m && rangeB m) = true → sidesB m = true → R = 0 ∧ m = B) := PO.out FZ.out
      have SA : Hid (St w Q l (wr.alloc (.cells #[Value.int .i64 0, Value.int .i64 0, Value.int .i64 0, Value.int .i64 0, Value.int .i64 0, Value.int .i64 0, Value.int .i64 0, Value.int .i64 0, Value.int .i64 0, Value.int .i64 0, Value.int .i64 0, Value.int .i64 0] 31)) ∧ Q + 1 < wr.heap.size) := ⟨st.alloc _, st.rs.lt⟩
      have NA : Hid (Blk wr.heap.size 31 (bkL zeroL) (wr.alloc (.cells #[Value.int .i64 0, Value.int .i64 0, Value.int .i64 0, Value.int .i64 0, Value.int .i64 0, Value.int .i64 0, Value.int .i64 0, Value.int .i64 0, Value.int .i64 0, Value.int .i64 0, Value.int .i64 0, Value.int .i64 0] 31))) := Blk.new 31 (bkL zeroL) wr
      clear FK DR DE PF PR PS PO MV RF CE st FZ hlt
      go_wp2_with fail
      generalize wr.alloc (.cells #[Value.int .i64 0, Value.int .i64 0, Value.int .i64 0, Value.int .i64 0, Value.int .i64 0, Value.int .i64 0, Value.int .i64 0, Value.int .i64 0, Value.int .i64 0, Value.int .i64 0, Value.int .i64 0, Value.int .i64 0] 31) = wa at *
      obtain ⟨G, hG⟩ : ∃ G, wr.heap.size = G := ⟨_, rfl⟩
      rw [hG] at NA SA ⊢
      have hQG : Q + 1 < G := SA.out.2
      clear hG
      go_loopw [9, 10, 11] (fun vk _ _ wr => ∃ (k : Nat) (cur : List Int), vk = .int .i64 (k : Int) ∧ k ≤ 12 ∧ Hid (cur.length = 12) ∧ Hid (∀ j, j < 12 → cur.getD j 0 = if j < k then m.getD j 0 else 0) ∧ Hid (∀ j, j < k → smOk (m.getD j 0) = true ∧ (m.getD j 0 != -9223372036854775808) = true) ∧ Blk G 31 (bkL cur) wr ∧ St w Q l wr) (fun vk _ _ _ => 12 - (intOf vk).toNat)
      case atStart => exact ⟨0, zeroL, rfl, by omega, rfl, (fun j hj => by rw [if_neg (by omega)]; exact zeroL_at j), (fun j hj => by omega), NA.out, SA.out.1⟩
      case round =>
        clear NA SA
        obtain ⟨i, cur, rfl, hi, LC, CU, OK, nb, st⟩ := hrel
        have ST : Hid (St w Q l wr) := st
        have NB : Hid (Blk G 31 (bkL cur) wr) := nb
        clear nb st
        by_cases hlt : (i : Int) < 12
        · have MK : Hid (∀ w', Below w.heap.size w w' → Calls Tryz.prog 57 #[.agg (bkL l).toArray, .slice ao k cap, .int .i64 (i : Int)] w' fun e w2 => ∃ v2, e = .returned v2 ∧ Below w'.heap.size w' w2 ∧ Calls Tryz.prog 56 #[v2] w2 fun e w3 => e = .returned (.tuple #[.int .i64 (smV (m.getD i 0)), .bool (smOk (m.getD i 0))]) ∧ w3 = w2) := fun w' hb => MZ.out w' hb i (by omega)
          have VK : Hid (smOk (m.getD i 0) = true → smV (m.getD i 0) = m.getD i 0) := fun h => by unfold smV; rw [h]; rfl
          have KF : Hid (smOk (m.getD i 0) = false → R = 3 ∧ l = B) := fun h => PR1.out (by
            have f : fitsL m = false := fitsL_false (fun hh => by have := hh i (by omega); rw [h] at this; cases this)
            rw [f]; rfl)
          have KL : Hid ((m.getD i 0 == -9223372036854775808) = true → R = 3 ∧ l = B) := fun h => PR1.out (by
            have f : rangeB m = false := all_false i (by omega) (by rw [bne, h]; rfl)
            rw [f, Bool.and_false])
          have NX : Hid ((cur.set i (m.getD i 0)).length = 12 ∧ (∀ j, j < 12 → (cur.set i (m.getD i 0)).getD j 0 = if j < i + 1 then m.getD j 0 else 0) ∧ (smOk (m.getD i 0) = true → (m.getD i 0 == -9223372036854775808) = false → ∀ j, j < i + 1 → smOk (m.getD j 0) = true ∧ (m.getD j 0 != -9223372036854775808) = true)) := by
            have lc := LC.out
            refine ⟨by rw [List.length_set]; exact lc, fun j hj => ?_, fun h h2 j hj => ?_⟩
            · rw [getD_set (by omega)]
              by_cases h : j = i
              · subst h
                rw [if_pos rfl, if_pos (by omega)]
              · rw [if_neg h, CU.out j hj]
                by_cases h2 : j < i
                · rw [if_pos h2, if_pos (by omega)]
                · rw [if_neg h2, if_neg (by omega)]
            · by_cases e : j = i
              · subst e; exact ⟨h, by rw [bne, h2]; rfl⟩
              · exact OK.out j (by omega)
          generalize hok : smOk (m.getD i 0) = ok at *
          clear hok
          generalize smV (m.getD i 0) = sv at *
          generalize m.getD i 0 = x at *
          clear MZ OK CU PR1 PS1 PO1 OS LM
          go_wp2_with (refine step_load rfl 31 _ rfl Q 0 rfl (bkL l) _ ST.out.bk.all Tryz.underlying31 rfl (infoBl LL.out) ?_)
          refine (MK.out _ ST.out.bb).mono ?_
          rintro e w3 ⟨v2, rfl, b3, SUM⟩
          have SM : Hid (Calls Tryz.prog 56 #[v2] w3 fun e w4 => e = .returned (.tuple #[.int .i64 sv, .bool ok]) ∧ w4 = w3) := SUM
          have S3 : Hid (St w Q l w3) := ST.out.below b3
          have N3 : Hid (Blk G 31 (bkL cur) w3) := NB.out.below b3
          clear SUM b3 ST NB MK
          go_wp2_with fail
          refine SM.out.mono ?_
          rintro e w4 ⟨rfl, rfl⟩
          cases ok
          · obtain ⟨er, eb⟩ := KF.out (by first | rfl | trivial)
            clear KF KL VK NX
            subst er eb
            go_wp2_with (first
              | (refine step_load rfl 31 _ rfl Q 0 rfl (bkL l) _ S3.out.bk.all Tryz.underlying31 rfl (infoBl LL.out) ?_)
              | (refine step_store rfl 31 _ _ rfl (Q + 1) 0 31 (bkL zeroL) (bkL l) rfl rfl S3.out.rs (by rw [bkL_len, LL.out]; exact Nat.le_refl _) (infoBl LL.out) (bkL_one _) ?_; intro w9 nb9 g9))
            rw [store_all (by rw [bkL_len, LL.out]; rfl)] at nb9
            refine ret_blk_tmp rfl rfl (Q + 1) 31 (bkL l) _ rfl nb9 Tryz.underlying31 rfl (infoBl LL.out) ?_
            exact ⟨rfl, below_row S3.out.bb g9 (by have := HQ.out; omega)⟩
          · obtain rfl : sv = x := VK.out (by first | rfl | trivial)
            generalize hq : (sv == -9223372036854775808) = q at *
            cases q
            · have cb : w4.cell? ⟨G, i, none⟩ = some (.int .i64 (cur.getD i 0)) := N3.out.cell i _ (bkL_at (by have := LC.out; omega))
              have fb : w4.frozen? ⟨G, i, none⟩ = false := N3.out.fz i
              clear KF KL VK
              go_wp2_with fail
              go_roundw
              case rel =>
                have b9 := N3.out.set (i := i) (.int .i64 sv)
                have e9 : (bkL cur).set i (.int .i64 sv) = bkL (cur.set i sv) := by simp [bkL, List.map_set]
                rw [e9] at b9
                exact ⟨i + 1, cur.set i sv, by go_num, by omega, NX.out.1, NX.out.2.1, NX.out.2.2 (by first | rfl | trivial) (by first | rfl | trivial), b9, S3.out.grown (setCell_grown w4 G i _) (by have := HQ.out; omega) hQG⟩
              case measure => simp [intOf]; omega
            · obtain ⟨er, eb⟩ := KL.out (by first | rfl | trivial)
              clear KF KL VK NX
              subst er eb
              go_wp2_with (first
                | (refine step_load rfl 31 _ rfl Q 0 rfl (bkL l) _ S3.out.bk.all Tryz.underlying31 rfl (infoBl LL.out) ?_)
                | (refine step_store rfl 31 _ _ rfl (Q + 1) 0 31 (bkL zeroL) (bkL l) rfl rfl S3.out.rs (by rw [bkL_len, LL.out]; exact Nat.le_refl _) (infoBl LL.out) (bkL_one _) ?_; intro w9 nb9 g9))
              rw [store_all (by rw [bkL_len, LL.out]; rfl)] at nb9
              refine ret_blk_tmp rfl rfl (Q + 1) 31 (bkL l) _ rfl nb9 Tryz.underlying31 rfl (infoBl LL.out) ?_
              exact ⟨rfl, below_row S3.out.bb g9 (by have := HQ.out; omega)⟩
        · obtain rfl : i = 12 := by omega
          have FR : Hid ((fitsL m && rangeB m) = true) := by
            show _ = _
            rw [fitsL_true (fun j hj => (OK.out j hj).1), show rangeB m = true from all_true (fun j hj => (OK.out j hj).2)]; rfl
          have PS2 : Hid (sidesB m = false → R = 81 ∧ l = B) := PS1.out FR.out
          have PO2 : Hid (sidesB m = true → R = 0 ∧ m = B) := PO1.out FR.out
          have em : cur = m := ext12 LC.out LM.out (fun j hj => by rw [CU.out j hj, if_pos hj])
          subst em
          clear LM CU OK PR1 PS1 PO1 FR MZ hlt
          go_wp2_with fail
          go_loopw [12] (fun vk wr => ∃ k : Nat, vk = .int .i64 (k : Int) ∧ k ≤ 12 ∧ Hid (∀ j, j < k → ownB j (cur.getD j 0) = true) ∧ Blk G 31 (bkL cur) wr ∧ St w Q l wr) (fun vk _ => 12 - (intOf vk).toNat)
          case atStart => exact ⟨0, rfl, by omega, (fun j hj => by omega), NB.out, ST.out⟩
          case round =>
            clear NB ST
            obtain ⟨i, rfl, hi, OW, nb, st⟩ := hrel
            have ST : Hid (St w Q l wr) := st
            have NB : Hid (Blk G 31 (bkL cur) wr) := nb
            clear nb st
            by_cases hlt : (i : Int) < 12
            · have c0 := NB.out.cell i _ (bkL_at (by have := LC.out; omega))
              have OI : Hid (∀ w', Calls Tryz.prog 58 #[.int .i64 (i : Int), .int .i64 (cur.getD i 0)] w' fun e w2 => e = .returned (.bool (ownB i (cur.getD i 0))) ∧ w2 = w') := fun w' => OS.out i _ w'
              have NX : Hid (ownB i (cur.getD i 0) = true → ∀ j, j < i + 1 → ownB j (cur.getD j 0) = true) := fun h j hj => by
                by_cases e : j = i
                · subst e; exact h
                · exact OW.out j (by omega)
              have KF : Hid (ownB i (cur.getD i 0) = false → R = 81 ∧ l = B) := fun h => PS2.out (all_false i (by omega) h)
              generalize ownB i (cur.getD i 0) = ok at *
              generalize cur.getD i 0 = x at *
              clear OS PS2 PO2 OW
              go_wp2_with fail
              refine (OI.out _).mono ?_
              rintro e w4 ⟨rfl, rfl⟩
              cases ok
              · obtain ⟨er, eb⟩ := KF.out (by first | rfl | trivial)
                clear KF NX
                subst er eb
                go_wp2_with (first
                  | (refine step_load rfl 31 _ rfl Q 0 rfl (bkL l) _ ST.out.bk.all Tryz.underlying31 rfl (infoBl LL.out) ?_)
                  | (refine step_store rfl 31 _ _ rfl (Q + 1) 0 31 (bkL zeroL) (bkL l) rfl rfl ST.out.rs (by rw [bkL_len, LL.out]; exact Nat.le_refl _) (infoBl LL.out) (bkL_one _) ?_; intro w9 nb9 g9))
                rw [store_all (by rw [bkL_len, LL.out]; rfl)] at nb9
                refine ret_blk_tmp rfl rfl (Q + 1) 31 (bkL l) _ rfl nb9 Tryz.underlying31 rfl (infoBl LL.out) ?_
                exact ⟨rfl, below_row ST.out.bb g9 (by have := HQ.out; omega)⟩
              · go_wp2_with fail
                go_roundw
                case rel => first | exact ⟨i + 1, by go_num, by omega, NX.out (by first | rfl | trivial), NB.out, ST.out⟩ | ((repeat apply Exists.intro); exact ⟨⟨i + 1, by go_num, by omega, NX.out (by first | rfl | trivial), NB.out, ST.out⟩, rfl⟩)
                case measure => simp [intOf]; omega
            · obtain rfl : i = 12 := by omega
              obtain ⟨er, eb⟩ := PO2.out (all_true OW.out)
              clear PS2 PO2 OW OS
              subst er eb
              go_wp2_with (first
                | (refine step_load rfl 31 _ rfl G 0 rfl (bkL cur) _ NB.out.all Tryz.underlying31 rfl (infoBl LC.out) ?_)
                | (refine step_store rfl 31 _ _ rfl (Q + 1) 0 31 (bkL zeroL) (bkL cur) rfl rfl ST.out.rs (by rw [bkL_len, LC.out]; exact Nat.le_refl _) (infoBl LC.out) (bkL_one _) ?_; intro w9 nb9 g9))
              rw [store_all (by rw [bkL_len, LC.out]; rfl)] at nb9
              refine ret_blk_tmp rfl rfl (Q + 1) 31 (bkL cur) _ rfl nb9 Tryz.underlying31 rfl (infoBl LC.out) ?_
              exact ⟨rfl, below_row ST.out.bb g9 (by have := HQ.out; omega)⟩
end Go.Proofs.YtgdmkcbbomfmdaaGreatDoor
