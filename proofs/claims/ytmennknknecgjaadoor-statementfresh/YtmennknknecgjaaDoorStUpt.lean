/-
  Ours: statement.Upto.
-/
import Derived.Test.YtmennknknecgjaaDoorStRow
import Derived.Test.YtmennknknecgjaaDoorStLit
namespace Go.Proofs.YtmennknknecgjaaDoor
open Go.RowKit LedM StM

abbrev z14o : Obj := .cells #[.int .i64 0, .int .i64 0, .int .i64 0, .int .i64 0, .int .i64 0, .int .i64 0, .int .i64 0, .int .i64 0, .int .i64 0, .int .i64 0, .int .i64 0, .int .i64 0, .int .i64 0, .int .i64 0] 29
theorem zero14 : (bkL (List.replicate 14 0)).toArray = #[Value.int .i64 0, Value.int .i64 0, Value.int .i64 0, Value.int .i64 0, Value.int .i64 0, Value.int .i64 0, Value.int .i64 0, Value.int .i64 0, Value.int .i64 0, Value.int .i64 0, Value.int .i64 0, Value.int .i64 0, Value.int .i64 0, Value.int .i64 0] := rfl
theorem drop_bkL (m : List Int) (k : Nat) : (bkL m).drop k = bkL (m.drop k) := by unfold bkL; rw [List.map_drop]
/-- A loaded movement laid into a block of its own: its day; its change. -/
theorem mo_cell0 {G : Nat} {w : World} {m : List Int} (h : Blk G 29 (bkL m) w) (hl : m.length = 14) (j : Nat) (hj : j < 14) : w.cell? ⟨G, j, none⟩ = some (.int .i64 (m.getD j 0)) := h.cell j _ (bkL_at (by omega))
theorem mo_change {G : Nat} {w : World} {m : List Int} (h : Blk G 29 (bkL m) w) (hl : m.length = 14) : w.rangeAt G 2 (bkL (m.drop 2)) := by
  have := h.range 2 12
  rw [drop_bkL, List.take_of_length_le (by rw [bkL_len, List.length_drop, hl]; exact Nat.le_refl _)] at this
  exact this
/-- What Upto answers. -/
def UptAns (ms : List (List Int)) (d : Int) (w : World) (e : Ending) (w' : World) : Prop := e = .returned (.tuple #[.agg (bkL (bookL (sumB (upl ms d)))).toArray, .bool (fitsL (sumB (upl ms d)))]) ∧ Below w.heap.size w w'
set_option maxRecDepth 20000 in
set_option maxHeartbeats 4000000 in
theorem upto_at (ms : List (List Int)) (d : Int) (v : Value) (w : World) (h : RdMo w v ms) (ok : ∀ m ∈ ms, MoOk m) (hn : ms.length ≤ 1000000) : Calls Tryd.prog 21 #[v, .int .i64 d] w (UptAns ms d w) := by
  obtain ⟨i0, hi0, hz0, hz1, hz2⟩ := info_parts infoB12
  have RD : Hid (∀ w', Below w.heap.size w w' → RdMo w' v ms) := fun w' hb => h.later hb
  have TA : Hid (∀ v' w', RdBk w' v' (upl ms d) → Calls Tryd.prog 34 #[v'] w' fun e w2 => e = .returned (.tuple #[.agg (bkL (bookL (sumB (upl ms d)))).toArray, .bool (fitsL (sumB (upl ms d)))]) ∧ Below w'.heap.size w' w2) := fun v' w' hr => total_at _ _ _ hr (upl_ok ok d) (by have := upl_le ms d; omega)
  have TW : Hid (Tw (upl ms d)) := upl_tw (T14.of_ok ok) d
  have BL : Hid ((bookL (sumB (upl ms d))).length = 12) := by show _ = _; unfold bookL; split; exact sumB_len _; rfl
  obtain ⟨ao, cap, rfl, hcap, hno, _⟩ := h
  have CE : Hid (∀ w', Below w.heap.size w w' → ∀ i m, ms[i]? = some m → ∃ g o, ao = some ⟨g, o, none⟩ ∧ w'.rangeAt g (o + i * 14) (bkL m)) := fun w' hb i m hi => by
    obtain ⟨ao', cap', e, _, _, H⟩ := RD.out w' hb
    injection e with e1 e2 e3
    subst e1
    obtain ⟨g, o, e, _, r⟩ := H i m hi
    exact ⟨g, o, e, r⟩
  obtain ⟨L, hL⟩ : ∃ L, ms.length = L := ⟨_, rfl⟩
  have GI : Hid (∀ i, i < L → ∃ m, ms[i]? = some m ∧ m.length = 14) := fun i hi => ⟨_, List.getElem?_eq_getElem (by omega), (ok _ (List.getElem_mem (by omega))).1⟩
  have TK : Hid (ms.take L = ms) := List.take_of_length_le (by omega)
  have UL : Hid (∀ k, k ≤ L → (upl (ms.take k) d).length ≤ k) := fun k hk => Nat.le_trans (upl_le _ _) (by rw [List.length_take]; omega)
  unfold UptAns
  obtain ⟨B, hB⟩ : ∃ B, bookL (sumB (upl ms d)) = B := ⟨_, rfl⟩
  obtain ⟨K, hK⟩ : ∃ K, fitsL (sumB (upl ms d)) = K := ⟨_, rfl⟩
  rw [hB, hK] at TA
  rw [hB] at BL
  rw [hB, hK]
  clear hB hK
  rw [hL] at hcap hn ⊢
  have R0 : Hid (RowBk (w.heap.size + 1) (w.alloc z12o) (.slice none 0 0) (upl (ms.take 0) d) ∧ Blk w.heap.size 27 (bkL zeroL) (w.alloc z12o) ∧ Below w.heap.size w (w.alloc z12o) ∧ w.heap.size + 1 ≤ (w.alloc z12o).heap.size) := ⟨RowBk.nil _ _, Blk.new _ (bkL zeroL) w, below_alloc w _, by simp⟩
  clear RD hL hno ok
  go_enter Tryd.func21, Tryd.ntmps21
  go_upto_region 2 with fail
  generalize w.alloc z12o = w1 at *
  obtain ⟨Q, hQ⟩ : ∃ Q, w.heap.size = Q := ⟨_, rfl⟩
  have HQ : Hid (w.heap.size = Q) := hQ
  rw [hQ] at R0 ⊢
  clear hQ
  go_wp2_with fail
  go_loopw [6, 8, 11] (fun vl _ vk wr => ∃ (k : Nat) (la : Option Addr) (ln lc : Nat), vk = .int .i64 (k : Int) ∧ vl = .slice la ln lc ∧ k ≤ L ∧ RowBk (Q + 1) wr (.slice la ln lc) (upl (ms.take k) d) ∧ Blk Q 27 (bkL zeroL) wr ∧ Below Q w wr ∧ Q + 1 ≤ wr.heap.size) (fun _ _ vk _ => L - (intOf vk).toNat)
  case atStart => exact ⟨0, none, 0, 0, rfl, rfl, by omega, R0.out⟩
  case round =>
    clear R0
    obtain ⟨k, la, ln, lc, rfl, rfl, hk, hro, hbq, hbw, hsz⟩ := hrel
    have HB : Hid (RowBk (Q + 1) wr (.slice la ln lc) (upl (ms.take k) d) ∧ Blk Q 27 (bkL zeroL) wr ∧ Below Q w wr) := ⟨hro, hbq, hbw⟩
    by_cases hlt : (k : Int) < (L : Int)
    · obtain ⟨m, hm, hml⟩ := GI.out k (by omega)
      obtain ⟨g, o, rfl, rg⟩ := CE.out wr (by rw [HQ.out]; exact hbw) k m hm
      have RG : Hid (wr.rangeAt g (o + k * 14) (bkL m)) := rg
      have UP : Hid (upl (ms.take (k + 1)) d = upl (ms.take k) d ++ if m.getD 0 0 ≤ d then [m.drop 2] else []) := by show _ = _; rw [take_push hm, upl_push]
      have ul := UL.out k hk
      have IM : Hid ((Tryd.prog.info? 29).map (·.size) = some (bkL m).length) := infoMl hml
      have IB : Hid ((Tryd.prog.info? 27).map (·.size) = some (bkL (m.drop 2)).length) := infoBl (by rw [List.length_drop, hml])
      have ML : Hid (m.length = 14) := hml
      have NB : Hid (Blk wr.heap.size 29 (bkL (List.replicate 14 0)) (wr.alloc z14o) ∧ Below Q w (wr.alloc z14o) ∧ Blk Q 27 (bkL zeroL) (wr.alloc z14o) ∧ RowBk (Q + 1) (wr.alloc z14o) (.slice la ln lc) (upl (ms.take k) d)) := ⟨Blk.new _ (bkL (List.replicate 14 0)) wr, hbw.alloc (by omega) _, hbq.old _, hro.later (below_alloc _ _)⟩
      have HN : Hid (∀ w2, (wr.alloc z14o).grownBy w2 (some wr.heap.size) → Below Q w w2 ∧ Blk Q 27 (bkL zeroL) w2 ∧ RowBk (Q + 1) w2 (.slice la ln lc) (upl (ms.take k) d) ∧ Q + 1 ≤ w2.heap.size) := fun w2 hg => by
        have s1 : (wr.alloc z14o).heap.size = wr.heap.size + 1 := by simp
        refine ⟨NB.out.2.1.grown hg (by omega) (fun q e => by cases e; omega), NB.out.2.2.1.grown hg (fun e => by cases e; have := hbq.lt; omega), World.ownsRow.kept NB.out.2.2.2 hg (.inr fun e => ?_), by have := hg.size; omega⟩
        have := (World.ownsRow.lt hro _ e).2
        omega
      clear rg hro hbq hbw hm hml CE GI UL TA TW BL TK
      go_upto_region 5 with (first
        | (refine step_load rfl 29 _ rfl g (o + k * 14) rfl (bkL m) _ RG.out Tryd.underlying29 rfl IM.out ?_)
        | (refine step_store rfl 29 _ _ rfl wr.heap.size 0 29 (bkL (List.replicate 14 0)) (bkL m) rfl rfl NB.out.1 (by rw [bkL_len, ML.out]; exact Nat.le_refl _) IM.out (bkL_one _) ?_; intro w2 nb2 g2; rw [store_all (by rw [bkL_len, ML.out]; rfl)] at nb2))
      obtain ⟨b2, q2, r2, s2⟩ := HN.out w2 g2
      have d0 := mo_cell0 nb2 ML.out 0 (by decide)
      have CH : Hid (w2.rangeAt wr.heap.size 2 (bkL (m.drop 2))) := mo_change nb2 ML.out
      have H2 : Hid (RowBk (Q + 1) w2 (.slice la ln lc) (upl (ms.take k) d) ∧ Blk Q 27 (bkL zeroL) w2 ∧ Below Q w w2 ∧ Q + 1 ≤ w2.heap.size) := ⟨r2, q2, b2, s2⟩
      have LB : Hid ((bkL (m.drop 2)).length = 12) := by show _ = _; rw [bkL_len, List.length_drop, ML.out]
      clear nb2 g2 NB HN RG IM HB b2 q2 r2 s2
      by_cases hd : m.getD 0 0 ≤ d
      · rw [if_pos hd] at UP
        generalize m.getD 0 0 = x at *
        obtain ⟨US, hU⟩ : ∃ US, upl (ms.take k) d = US := ⟨_, rfl⟩
        rw [hU] at UP H2 ul
        have l1 : US.length + 1 ≤ maxLen := by unfold maxLen; omega
        have l2 : (US.length + 1) * 96 ≤ 140737488355328 := by omega
        have l3 : Q + 1 ≤ w2.heap.size := H2.out.2.2.2
        clear hU
        go_wp2_with (first
          | (refine step_load rfl 27 _ rfl wr.heap.size 2 rfl (bkL (m.drop 2)) _ CH.out Tryd.underlying27 rfl IB.out ?_)
          | (refine at_slice ?_; refine step_slice1 rfl 58 27 _ rfl i0 (.agg #[.int .i64 0, .int .i64 0, .int .i64 0, .int .i64 0, .int .i64 0, .int .i64 0, .int .i64 0, .int .i64 0, .int .i64 0, .int .i64 0, .int .i64 0, .int .i64 0]) 12 (by decide) Tryd.underlying58 hi0 hz0 hz1 (by decide) (bkL (m.drop 2)) LB.out rfl ?_)
          | (at_builtin; refine wpList_pushR rfl (.tmp 19) (.tmp 22) 58 rfl 27 i0 (.agg #[.int .i64 0, .int .i64 0, .int .i64 0, .int .i64 0, .int .i64 0, .int .i64 0, .int .i64 0, .int .i64 0, .int .i64 0, .int .i64 0, .int .i64 0, .int .i64 0]) 12 96 Tryd.underlying58 hi0 hz0 hz1 hz2 rfl (by decide) (Q + 1) (.slice la ln lc) US.length (bksL US) (bkL (m.drop 2)) LB.out (bkL_one _) rfl H2.out.1 l3 rfl l1 l2 ?_; intro g7 n7 c7 w7 o7 gr7 _))
        have R7 : Hid (RowBk (Q + 1) w7 (.slice g7 n7 c7) (upl (ms.take (k + 1)) d) ∧ Blk Q 27 (bkL zeroL) w7 ∧ Below Q w w7 ∧ Q + 1 ≤ w7.heap.size) := by
          have ne : ∀ x, (Value.slice la ln lc).ownBlock = some x → Q + 1 ≤ x := fun x e => (World.ownsRow.lt H2.out.1 x e).1
          refine ⟨?_, H2.out.2.1.grown gr7 (fun e => by have := ne Q e; omega), H2.out.2.2.1.grown gr7 (by omega) (fun x e => by have := ne x e; omega), by have := gr7.size; omega⟩
          unfold RowBk
          rw [UP.out, List.length_append, bksL_append, show bksL [m.drop 2] = bkL (m.drop 2) from by simp [bksL]]
          exact o7
        clear o7 gr7 H2 UP CH LB IB
        go_roundw
        case rel => exact ⟨k + 1, _, _, _, by go_num, rfl, by omega, R7.out⟩
        case measure => simp [intOf]; omega
      · rw [if_neg hd, List.append_nil] at UP
        have hd2 : decide (m.getD 0 0 ≤ d) = false := decide_eq_false hd
        generalize m.getD 0 0 = x at *
        go_wp2_with fail
        go_roundw
        case rel => exact ⟨k + 1, _, _, _, by go_num, rfl, by omega, by rw [UP.out]; exact H2.out⟩
        case measure => simp [intOf]; omega
    · obtain rfl : k = L := by omega
      rw [TK.out] at HB
      have TC := TA.out _ _ (HB.out.1.rd TW.out)
      have TC : Hid (Calls _ _ _ _ _) := TC
      clear hro hbq hbw CE GI UL TA TK
      go_wp2_with fail
      refine TC.out.mono ?_
      rintro e w5 ⟨rfl, b5⟩
      have R5 : Hid (Blk Q 27 (bkL zeroL) w5 ∧ Below Q w w5) := ⟨HB.out.2.1.below b5, by have := HB.out.2.2; exact this.trans (b5.mono hsz |>.mono (by omega))⟩
      clear TC HB b5
      go_wp2_with (refine step_store rfl 27 _ _ rfl Q 0 27 (bkL zeroL) (bkL B) rfl rfl R5.out.1 (by rw [bkL_len, BL.out]; exact Nat.le_refl _) (infoBl BL.out) (bkL_one _) ?_; intro w6 nb6 g6)
      rw [store_all (by rw [bkL_len, BL.out]; rfl)] at nb6
      refine ret_blk_tmp rfl rfl Q 27 (bkL B) _ rfl nb6 Tryd.underlying27 rfl (infoBl BL.out) ?_
      refine ⟨rfl, ?_⟩
      rw [HQ.out]
      exact R5.out.2.grown g6 (by have := R5.out.1.lt; omega) (fun q e => by cases e; exact Nat.le_refl _)
end Go.Proofs.YtmennknknecgjaaDoor
