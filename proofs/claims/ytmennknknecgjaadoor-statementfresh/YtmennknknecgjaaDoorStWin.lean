/-
  Ours: statement.Within.
-/
import Derived.Test.YtmennknknecgjaaDoorStUpt
namespace Go.Proofs.YtmennknknecgjaaDoor
open Go.RowKit LedM StM

/-- What Within answers. -/
def WinAns (ms : List (List Int)) (a b : Int) (w : World) (e : Ending) (w' : World) : Prop := ∃ v, e = .returned v ∧ RowMo w.heap.size w' v (win ms a b) ∧ Below w.heap.size w w'
set_option maxRecDepth 20000 in
set_option maxHeartbeats 4000000 in
theorem within_at (ms : List (List Int)) (a b : Int) (v : Value) (w : World) (h : RdMo w v ms) (ok : ∀ m ∈ ms, MoOk m) (hn : ms.length ≤ 1000000) : Calls Tryd.prog 6 #[v, .int .i64 a, .int .i64 b] w (WinAns ms a b w) := by
  obtain ⟨i0, hi0, hz0, hz1, hz2⟩ := info_parts infoM14
  have RD : Hid (∀ w', Below w.heap.size w w' → RdMo w' v ms) := fun w' hb => h.later hb
  obtain ⟨ao, cap, rfl, hcap, hno, _⟩ := h
  have CE : Hid (∀ w', Below w.heap.size w w' → ∀ i m, ms[i]? = some m → ∃ g o, ao = some ⟨g, o, none⟩ ∧ w'.rangeAt g (o + i * 14) (bkL m)) := fun w' hb i m hi => by
    obtain ⟨ao', cap', e, _, _, H⟩ := RD.out w' hb
    injection e with e1 e2 e3
    subst e1
    obtain ⟨g, o, e, _, r⟩ := H i m hi
    exact ⟨g, o, e, r⟩
  obtain ⟨L, hL⟩ : ∃ L, ms.length = L := ⟨_, rfl⟩
  have GI : Hid (∀ i, i < L → ∃ m, ms[i]? = some m ∧ m.length = 14) := fun i hi => ⟨_, List.getElem?_eq_getElem (by omega), (ok _ (List.getElem_mem (by omega))).1⟩
  have TK : Hid (ms.take L = ms) := List.take_of_length_le (by omega)
  have WL : Hid (∀ k, k ≤ L → (win (ms.take k) a b).length ≤ k) := fun k hk => Nat.le_trans (win_le _ _ _) (by rw [List.length_take]; omega)
  unfold WinAns
  rw [hL] at hcap hn ⊢
  clear RD hL hno ok
  obtain ⟨Q, hQ⟩ : ∃ Q, w.heap.size = Q := ⟨_, rfl⟩
  have R0 : Hid (RowMo Q w (.slice none 0 0) (win (ms.take 0) a b) ∧ Below Q w w ∧ Q ≤ w.heap.size) := ⟨RowMo.nil _ _, Below.refl _ _, by omega⟩
  rw [hQ] at CE ⊢
  clear hQ
  go_enter Tryd.func6, Tryd.ntmps6
  go_wp2_with fail
  go_loopw [7, 9, 12] (fun vl _ vk wr => ∃ (k : Nat) (la : Option Addr) (ln lc : Nat), vk = .int .i64 (k : Int) ∧ vl = .slice la ln lc ∧ k ≤ L ∧ RowMo Q wr (.slice la ln lc) (win (ms.take k) a b) ∧ Below Q w wr ∧ Q ≤ wr.heap.size) (fun _ _ vk _ => L - (intOf vk).toNat)
  case atStart => exact ⟨0, none, 0, 0, rfl, rfl, by omega, R0.out⟩
  case round =>
    clear R0
    obtain ⟨k, la, ln, lc, rfl, rfl, hk, hro, hbw, hsz⟩ := hrel
    have HB : Hid (RowMo Q wr (.slice la ln lc) (win (ms.take k) a b) ∧ Below Q w wr) := ⟨hro, hbw⟩
    by_cases hlt : (k : Int) < (L : Int)
    · obtain ⟨m, hm, hml⟩ := GI.out k (by omega)
      obtain ⟨g, o, rfl, rg⟩ := CE.out wr hbw k m hm
      have RG : Hid (wr.rangeAt g (o + k * 14) (bkL m)) := rg
      have UP : Hid (win (ms.take (k + 1)) a b = win (ms.take k) a b ++ if a ≤ m.getD 0 0 ∧ m.getD 0 0 ≤ b then [m] else []) := by show _ = _; rw [take_push hm, win_push]
      have ul := WL.out k hk
      have IM : Hid ((Tryd.prog.info? 29).map (·.size) = some (bkL m).length) := infoMl hml
      have ML : Hid (m.length = 14) := hml
      have MB : Hid ((bkL m).length = 14) := by show _ = _; rw [bkL_len, hml]
      have NB : Hid (Blk wr.heap.size 29 (bkL (List.replicate 14 0)) (wr.alloc z14o) ∧ Below Q w (wr.alloc z14o) ∧ RowMo Q (wr.alloc z14o) (.slice la ln lc) (win (ms.take k) a b)) := ⟨Blk.new _ (bkL (List.replicate 14 0)) wr, hbw.alloc hsz _, hro.later (below_alloc _ _)⟩
      have HN : Hid (∀ w2, (wr.alloc z14o).grownBy w2 (some wr.heap.size) → Below Q w w2 ∧ RowMo Q w2 (.slice la ln lc) (win (ms.take k) a b) ∧ Q ≤ w2.heap.size) := fun w2 hg => by
        have s1 : (wr.alloc z14o).heap.size = wr.heap.size + 1 := by simp
        refine ⟨NB.out.2.1.grown hg (by omega) (fun q e => by cases e; omega), World.ownsRow.kept NB.out.2.2 hg (.inr fun e => ?_), by have := hg.size; omega⟩
        have := (World.ownsRow.lt hro _ e).2
        omega
      clear rg hro hbw hm hml CE GI WL TK
      go_upto_region 5 with (first
        | (refine step_load rfl 29 _ rfl g (o + k * 14) rfl (bkL m) _ RG.out Tryd.underlying29 rfl IM.out ?_)
        | (refine step_store rfl 29 _ _ rfl wr.heap.size 0 29 (bkL (List.replicate 14 0)) (bkL m) rfl rfl NB.out.1 (by rw [bkL_len, ML.out]; exact Nat.le_refl _) IM.out (bkL_one _) ?_; intro w2 nb2 g2; rw [store_all (by rw [bkL_len, ML.out]; rfl)] at nb2))
      obtain ⟨b2, r2, s2⟩ := HN.out w2 g2
      have d0 := mo_cell0 nb2 ML.out 0 (by decide)
      have CH : Hid (w2.rangeAt wr.heap.size 0 (bkL m)) := nb2.all
      have H2 : Hid (RowMo Q w2 (.slice la ln lc) (win (ms.take k) a b) ∧ Below Q w w2 ∧ Q ≤ w2.heap.size) := ⟨r2, b2, s2⟩
      clear nb2 g2 NB HN RG HB b2 r2 s2
      by_cases hd : a ≤ m.getD 0 0
      · by_cases hf : m.getD 0 0 ≤ b
        · rw [if_pos ⟨hd, hf⟩] at UP
          generalize m.getD 0 0 = x at *
          obtain ⟨US, hU⟩ : ∃ US, win (ms.take k) a b = US := ⟨_, rfl⟩
          rw [hU] at UP H2 ul
          have l1 : US.length + 1 ≤ maxLen := by unfold maxLen; omega
          have l2 : (US.length + 1) * 112 ≤ 140737488355328 := by omega
          have l3 : Q ≤ w2.heap.size := H2.out.2.2
          clear hU
          go_wp2_with (first
            | (refine step_load rfl 29 _ rfl wr.heap.size 0 rfl (bkL m) _ CH.out Tryd.underlying29 rfl IM.out ?_)
            | (refine at_slice ?_; refine step_slice1 rfl 22 29 _ rfl i0 (.agg #[.int .i64 0, .int .i64 0, .int .i64 0, .int .i64 0, .int .i64 0, .int .i64 0, .int .i64 0, .int .i64 0, .int .i64 0, .int .i64 0, .int .i64 0, .int .i64 0, .int .i64 0, .int .i64 0]) 14 (by decide) Tryd.underlying22 hi0 hz0 hz1 (by decide) (bkL m) MB.out rfl ?_)
            | (at_builtin; refine wpList_pushR rfl (.tmp 26) (.tmp 28) 22 rfl 29 i0 (.agg #[.int .i64 0, .int .i64 0, .int .i64 0, .int .i64 0, .int .i64 0, .int .i64 0, .int .i64 0, .int .i64 0, .int .i64 0, .int .i64 0, .int .i64 0, .int .i64 0, .int .i64 0, .int .i64 0]) 14 112 Tryd.underlying22 hi0 hz0 hz1 hz2 rfl (by decide) Q (.slice la ln lc) US.length (bksL US) (bkL m) MB.out (bkL_one _) rfl H2.out.1 l3 rfl l1 l2 ?_; intro g7 n7 c7 w7 o7 gr7 _))
          have R7 : Hid (RowMo Q w7 (.slice g7 n7 c7) (win (ms.take (k + 1)) a b) ∧ Below Q w w7 ∧ Q ≤ w7.heap.size) := by
            have ne : ∀ x, (Value.slice la ln lc).ownBlock = some x → Q ≤ x := fun x e => (World.ownsRow.lt H2.out.1 x e).1
            refine ⟨?_, H2.out.2.1.grown gr7 l3 (fun x e => ne x e), by have := gr7.size; omega⟩
            unfold RowMo
            rw [UP.out, List.length_append, bksL_append, show bksL [m] = bkL m from by simp [bksL]]
            exact o7
          clear o7 gr7 H2 UP CH
          go_roundw
          case rel => exact ⟨k + 1, _, _, _, by go_num, rfl, by omega, R7.out⟩
          case measure => simp [intOf]; omega
        · rw [if_neg (fun hh => hf hh.2), List.append_nil] at UP
          have hf2 : decide (m.getD 0 0 ≤ b) = false := decide_eq_false hf
          generalize m.getD 0 0 = x at *
          go_wp2_with fail
          go_roundw
          case rel => exact ⟨k + 1, _, _, _, by go_num, rfl, by omega, by rw [UP.out]; exact H2.out⟩
          case measure => simp [intOf]; omega
      · rw [if_neg (fun hh => hd hh.1), List.append_nil] at UP
        have hd2 : decide (a ≤ m.getD 0 0) = false := decide_eq_false hd
        generalize m.getD 0 0 = x at *
        go_wp2_with fail
        go_roundw
        case rel => exact ⟨k + 1, _, _, _, by go_num, rfl, by omega, by rw [UP.out]; exact H2.out⟩
        case measure => simp [intOf]; omega
    · obtain rfl : k = L := by omega
      rw [TK.out] at HB
      clear hro hbw CE GI WL TK
      go_wp2_with fail
      go_ret
      exact ⟨_, rfl, HB.out.1, HB.out.2⟩
end Go.Proofs.YtmennknknecgjaaDoor
