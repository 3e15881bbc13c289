/-
  Ours: StatementLines walked.
-/
import Derived.Test.YtmennknknecgjaaDoorStRow
import Derived.Test.YtmennknknecgjaaDoorStLit
import Derived.Test.YtmennknknecgjaaDoorStRLns
import Derived.Test.YtmennknknecgjaaDoorStSln
namespace Go.Proofs.YtmennknknecgjaaDoor
open Go.RowKit LedM StM

namespace StM
/-- The mark behind the movements. -/
def mkM : List Int := [-7, -7, 0, 0, 0, 0, 0, 0, 0, 0, 0, 0, 0, 0]
theorem mk_ok : MoOk mkM := ⟨rfl, fun k => by
  have h : ∀ x ∈ mkM, i64 x := by
    intro x hx
    unfold mkM at hx
    simp at hx
    unfold i64
    omega
  rw [List.getD_eq_getElem?_getD]
  by_cases hk : k < mkM.length
  · rw [List.getElem?_eq_getElem hk]; exact h _ (List.getElem_mem hk)
  · rw [List.getElem?_eq_none (by omega)]; exact ⟨by simp, by simp⟩⟩
end StM
/-- What copied answers. -/
def CopAns (ms : List (List Int)) (w : World) (e : Ending) (w' : World) : Prop := ∃ g c, e = .returned (.slice (some ⟨g, 0, none⟩) (ms.length + 1) c) ∧ RowMo w.heap.size w' (.slice (some ⟨g, 0, none⟩) (ms.length + 1) c) (ms ++ [mkM]) ∧ Below w.heap.size w w'
set_option maxRecDepth 20000 in
set_option maxHeartbeats 4000000 in
theorem copied_at (ms : List (List Int)) (v : Value) (w : World) (h : RdMo w v ms) (ht : T14 ms) (hn : ms.length ≤ 1000000) : Calls Tryd.prog 5 #[v] w (CopAns ms w) := by
  obtain ⟨i0, hi0, hz0, hz1, hz2⟩ := info_parts infoM14
  have RD : Hid (∀ w', Below w.heap.size w w' → RdMo w' v ms) := fun w' hb => h.later hb
  obtain ⟨ao, cap, rfl, hcap, hno, _⟩ := h
  have CE : Hid (∀ w', Below w.heap.size w w' → ∀ i m, ms[i]? = some m → ∃ g o, ao = some ⟨g, o, none⟩ ∧ w'.rangeAt g (o + i * 14) (bkL m)) := fun w' hb i m hi => by
    obtain ⟨ao', cap', e, _, _, H⟩ := RD.out w' hb
    injection e with e1 e2 e3
    subst e1
    obtain ⟨g, o, e, _, r⟩ := H i m hi
    exact ⟨g, o, e, r⟩
  obtain ⟨L, hL⟩ : ∃ L, ms.length = L := ⟨_, rfl⟩
  have HL : Hid (ms.length = L) := hL
  have GI : Hid (∀ i, i < L → ∃ m, ms[i]? = some m ∧ m.length = 14) := fun i hi => ⟨_, List.getElem?_eq_getElem (by omega), ht _ (List.getElem_mem (by omega))⟩
  have TL : Hid (∀ k, k ≤ L → (ms.take k).length = k) := fun k hk => by rw [List.length_take]; omega
  unfold CopAns
  rw [hL] at hcap hn ⊢
  clear RD hL hno
  go_enter Tryd.func5, Tryd.ntmps5
  go_wp2_with fail
  go_loopw [3, 4] (fun vl vk wr => ∃ (k : Nat) (la : Option Addr) (ln lc : Nat), vk = .int .i64 (k : Int) ∧ vl = .slice la ln lc ∧ k ≤ L ∧ RowMo w.heap.size wr (.slice la ln lc) (ms.take k) ∧ Below w.heap.size w wr) (fun _ vk _ => L - (intOf vk).toNat)
  case atStart => exact ⟨0, none, 0, 0, rfl, rfl, by omega, RowMo.nil _ _, Below.refl _ _⟩
  case round =>
    obtain ⟨k, la, ln, lc, rfl, rfl, hk, hro, hbw⟩ := hrel
    have bsz : w.heap.size ≤ wr.heap.size := hbw.size
    have HB : Hid (Below w.heap.size w wr) := hbw
    have OW : Hid (wr.ownsRow w.heap.size 29 14 (.slice la ln lc) k (bksL (ms.take k))) := by
      have := hro
      unfold RowMo at this
      rw [TL.out k hk] at this
      exact this
    by_cases hlt : (k : Int) < (L : Int)
    · obtain ⟨m, hm, hml⟩ := GI.out k (by omega)
      obtain ⟨g, o, rfl, rg⟩ := CE.out wr hbw k m hm
      have RG : Hid (wr.rangeAt g (o + k * 14) (bkL m)) := rg
      have TS : Hid (bksL (ms.take (k + 1)) = bksL (ms.take k) ++ bkL m) := by show _ = _; rw [take_push hm, msL_push]
      have ML : Hid ((bkL m).length = 14) := by show _ = _; rw [bkL_len, hml]
      have IM : Hid ((Tryd.prog.info? 29).map (·.size) = some (bkL m).length) := infoMl hml
      have l1 : k + 1 ≤ maxLen := by unfold maxLen; omega
      have l2 : (k + 1) * 112 ≤ 140737488355328 := by omega
      clear rg hro hbw hm hml
      go_wp2_with (first
        | (refine step_load rfl 29 _ rfl g (o + k * 14) rfl (bkL m) _ RG.out Tryd.underlying29 rfl IM.out ?_)
        | (refine at_slice ?_; refine step_slice1 rfl 22 29 _ rfl i0 (.agg #[.int .i64 0, .int .i64 0, .int .i64 0, .int .i64 0, .int .i64 0, .int .i64 0, .int .i64 0, .int .i64 0, .int .i64 0, .int .i64 0, .int .i64 0, .int .i64 0, .int .i64 0, .int .i64 0]) 14 (by decide) Tryd.underlying22 hi0 hz0 hz1 (by decide) (bkL m) ML.out rfl ?_)
        | (at_builtin; refine wpList_pushR rfl (.tmp 11) (.tmp 16) 22 rfl 29 i0 (.agg #[.int .i64 0, .int .i64 0, .int .i64 0, .int .i64 0, .int .i64 0, .int .i64 0, .int .i64 0, .int .i64 0, .int .i64 0, .int .i64 0, .int .i64 0, .int .i64 0, .int .i64 0, .int .i64 0]) 14 112 Tryd.underlying22 hi0 hz0 hz1 hz2 rfl (by decide) w.heap.size (.slice la ln lc) k (bksL (ms.take k)) (bkL m) ML.out (bkL_one m) rfl OW.out bsz rfl l1 l2 ?_; intro g7 n7 c7 w7 o7 gr7 _))
      have R7 : Hid (RowMo w.heap.size w7 (.slice g7 n7 c7) (ms.take (k + 1)) ∧ Below w.heap.size w w7) := ⟨by unfold RowMo; rw [TL.out (k + 1) (by omega), TS.out]; exact o7, HB.out.grown gr7 bsz (fun x e => (World.ownsRow.lt OW.out x e).1)⟩
      clear o7 gr7 OW HB TS
      go_roundw
      case rel => exact ⟨k + 1, _, _, _, by go_num, rfl, by omega, R7.out⟩
      case measure => simp [intOf]; omega
    · obtain rfl : k = L := by omega
      have e1 : ms.take k = ms := List.take_of_length_le (by rw [HL.out]; exact Nat.le_refl _)
      rw [e1] at OW
      have l1 : k + 1 ≤ maxLen := by unfold maxLen; omega
      have l2 : (k + 1) * 112 ≤ 140737488355328 := by omega
      have KF : Hid (∀ w9 v9, w9.ownsRow w.heap.size 29 14 v9 (k + 1) (bksL ms ++ bkL mkM) → ∃ g c, v9 = .slice (some ⟨g, 0, none⟩) (k + 1) c ∧ RowMo w.heap.size w9 (.slice (some ⟨g, 0, none⟩) (k + 1) c) (ms ++ [mkM])) := fun w9 v9 h9 => by
        have h9' := h9
        rcases h9.2 with ⟨_, h0⟩ | ⟨g, c, cur, rfl, _⟩
        · omega
        · refine ⟨g, c, rfl, ?_⟩
          unfold RowMo
          rw [List.length_append, HL.out, msL_push]
          exact h9'
      clear hro hbw CE GI TL HL e1 ht
      go_wp2_with (at_builtin; refine wpList_pushR rfl (.tmp 18) (.tmp 20) 22 rfl 29 i0 (.agg #[.int .i64 0, .int .i64 0, .int .i64 0, .int .i64 0, .int .i64 0, .int .i64 0, .int .i64 0, .int .i64 0, .int .i64 0, .int .i64 0, .int .i64 0, .int .i64 0, .int .i64 0, .int .i64 0]) 14 112 Tryd.underlying22 hi0 hz0 hz1 hz2 rfl (by decide) w.heap.size (.slice la ln lc) k (bksL ms) (bkL mkM) rfl (bkL_one mkM) rfl OW.out bsz rfl l1 l2 ?_; intro g7 n7 c7 w7 o7 gr7 _)
      go_ret
      obtain ⟨g, c, e, r⟩ := KF.out _ _ o7
      rw [e]
      exact ⟨g, c, rfl, r, HB.out.grown gr7 bsz (fun x e => (World.ownsRow.lt OW.out x e).1)⟩
end Go.Proofs.YtmennknknecgjaaDoor

namespace Go.Proofs.YtmennknknecgjaaDoor
open Go.RowKit LedM StM CalM

/-- Movements of the call's own: whole, and cut in front of their mark. -/
theorem cop_own {ms : List (List Int)} {w w1 : World} {e : Ending} (t15 : T14 (ms ++ [mkM])) (h : CopAns ms w e w1) : ∃ g c, e = .returned (.slice (some ⟨g, 0, none⟩) (ms.length + 1) c) ∧ ms.length + 1 ≤ c ∧ RdMo w1 (.slice (some ⟨g, 0, none⟩) ms.length c) ms ∧ RowMo w.heap.size w1 (.slice (some ⟨g, 0, none⟩) (ms.length + 1) c) (ms ++ [mkM]) ∧ Below w.heap.size w w1 := by
  obtain ⟨g, c, rfl, r, b⟩ := h
  have n1 := r.rd t15
  have tm : (ms ++ [mkM]).take ms.length = ms := by rw [List.take_append_of_le_length (Nat.le_refl _), List.take_of_length_le (Nat.le_refl _)]
  have n2 := n1.take (k := ms.length) (by omega)
  rw [tm] at n2
  refine ⟨g, c, rfl, ?_, n2, r, b⟩
  obtain ⟨_, _, e1, hc1, _⟩ := n1.len
  injection e1 with _ _ e1
  subst e1
  rwa [List.length_append, List.length_singleton] at hc1
set_option maxRecDepth 20000 in
set_option maxHeartbeats 4000000 in
theorem lines_any (ms : List (List Int)) (a b : Int) (v : Value) (w : World) (ha : -9223372036854775808 ≤ a ∧ a ≤ 9223372036854775807) (h : RdMo w v ms) (ok : ∀ m ∈ ms, MoOk m) (hT : TabS w) : Calls Tryd.prog 4 #[v, .int .i64 a, .int .i64 b] w fun e w' => e = .returned (.bool true) ∧ Below w.heap.size w w' := by
  obtain ⟨D, HD⟩ := day_at
  obtain ⟨L, hL⟩ : ∃ L, ms.length = L := ⟨_, rfl⟩
  have RD : Hid (∀ w', Below w.heap.size w w' → RdMo w' v ms) := fun w' hb => h.later hb
  have HL : Hid (ms.length = L) := hL
  obtain ⟨ao, cap, e, hcap, hno⟩ := h.len
  subst e
  rw [hL] at hcap RD ⊢
  clear h hL
  by_cases hn : (L : Int) > 4000
  · clear RD HL HD
    go_enter Tryd.func4, Tryd.ntmps4
    go_wp2_with fail
    go_ret
    exact ⟨rfl, Below.refl _ _⟩
  have hl : ms.length ≤ 4000 := by rw [HL.out]; omega
  have t14 : T14 ms := T14.of_ok ok
  have T15 : Hid (T14 (ms ++ [mkM])) := t14.app (T14.one rfl)
  have CP : Hid (∀ w', Below w.heap.size w w' → Calls Tryd.prog 5 #[.slice ao L cap] w' (CopAns ms w')) := fun w' hb => copied_at ms _ w' (RD.out w' hb) t14 (by omega)
  have LP : Hid (∀ v' w', RdMo w' v' ms → Below w.heap.size w w' → Calls Tryd.prog 8 #[v', .int .i64 a, .int .i64 b] w' (LnsAns D ms a b w')) := fun v' w' hr hb => lines_at D HD ms a b ha.1 ha.2 v' w' hr ok (by omega) (hT.later hb)
  have LR : Hid (∀ v' w', RdMo w' v' ms → Below w.heap.size w w' → Calls Tryd.prog 10 #[v', .int .i64 a, .int .i64 b] w' (LnsAns D ms a b w')) := fun v' w' hr hb => rlines_at D HD ms a b ha.1 ha.2 v' w' hr ok (by omega) (hT.later hb)
  have SM : Hid (∀ va vb w', RdMo w' va (ms ++ [mkM]) → RdMo w' vb (ms ++ [mkM]) → Calls Tryd.prog 7 #[va, vb] w' fun e w2 => e = .returned (.bool true) ∧ ∃ n, w2 = w'.drewN n) := fun va vb w' ha hb => sameM_yes _ va vb w' (by rw [List.length_append, List.length_singleton]; omega) (fun m hm => by
    rcases List.mem_append.1 hm with hm | hm
    · exact ok m hm
    · rw [List.mem_singleton.1 hm]; exact mk_ok) ha hb
  have ll : (if lnsOk ms a b then lnsL D ms a b else []).length ≤ 5000 := by
    split
    · unfold lnsL
      have := win_le ms a b
      simp
      omega
    · simp
  have ST : Hid (∀ va vb w', Rd w' va (txL (if lnsOk ms a b then lnsL D ms a b else [])) → Rd w' vb (txL (if lnsOk ms a b then lnsL D ms a b else [])) → Calls Tryd.prog 9 #[va, vb] w' fun e w2 => e = .returned (.bool true) ∧ ∃ n, w2 = w'.drewN n) := fun va vb w' ha hb => sameT_yes _ va vb w' (by omega) ha hb
  unfold LnsAns at LP LR
  generalize (if lnsOk ms a b then lnsL D ms a b else []) = TX at *
  generalize lnsOk ms a b = K at *
  clear hl t14 ok HD hT ll
  go_enter Tryd.func4, Tryd.ntmps4
  go_wp2_with fail
  refine (CP.out w (Below.refl _ _)).mono ?_
  intro e w1 hc
  obtain ⟨g1, c1, rfl, hc1, n1, r1, b1⟩ := cop_own T15.out hc
  rw [HL.out] at hc1 n1 r1 ⊢
  have R1 : Hid (RowMo w.heap.size w1 (.slice (some ⟨g1, 0, none⟩) (L + 1) c1) (ms ++ [mkM]) ∧ Below w.heap.size w w1) := ⟨r1, b1⟩
  have LA : Hid (Calls _ _ _ _ _) := LP.out _ _ n1 b1
  clear hc n1 r1 b1 LP
  go_wp2_with fail
  refine LA.out.mono ?_
  rintro e w2 ⟨v2, rfl, r2, b2⟩
  have R2 : Hid (RowMo w.heap.size w2 (.slice (some ⟨g1, 0, none⟩) (L + 1) c1) (ms ++ [mkM]) ∧ Below w.heap.size w w2 ∧ Rd w2 v2 (txL TX)) := ⟨R1.out.1.later b2, below_trans R1.out.2 b2, r2.rd⟩
  clear LA r2 b2 R1
  have LB : Hid (Calls _ _ _ _ _) := LR.out _ w2 (RD.out w2 R2.out.2.1) R2.out.2.1
  clear LR
  go_wp2_with fail
  refine LB.out.mono ?_
  rintro e w3 ⟨v3, rfl, r3, b3⟩
  have R3 : Hid (RowMo w.heap.size w3 (.slice (some ⟨g1, 0, none⟩) (L + 1) c1) (ms ++ [mkM]) ∧ Below w.heap.size w w3 ∧ Rd w3 v2 (txL TX) ∧ Rd w3 v3 (txL TX)) := ⟨R2.out.1.later b3, below_trans R2.out.2.1 b3, R2.out.2.2.later b3, r3.rd⟩
  clear LB r3 b3 R2
  have SA : Hid (Calls _ _ _ _ _) := ST.out _ _ w3 R3.out.2.2.1 R3.out.2.2.2
  have kk : (K == K) = true := by simp
  clear ST
  go_wp2_with fail
  refine SA.out.mono ?_
  rintro e w4 ⟨rfl, n4, rfl⟩
  have CA : Hid (Calls _ _ _ _ _) := CP.out (w3.drewN n4) (below_drewN R3.out.2.1 n4)
  clear SA CP
  go_wp2_with fail
  refine CA.out.mono ?_
  rintro e w6 ⟨g6, c6, rfl, r6, b6⟩
  have b36 : Below w3.heap.size w3 w6 := below_trans (below_drewN (Below.refl _ _) n4) b6
  have SB : Hid (Calls _ _ _ _ _) := SM.out _ _ w6 ((R3.out.1.later b36).rd T15.out) (r6.rd T15.out)
  have W6 : Hid (Below w.heap.size w w6) := below_trans R3.out.2.1 b36
  rw [HL.out] at SB ⊢
  clear r6 b6 b36 R3 CA SM
  go_wp2_with fail
  refine SB.out.mono ?_
  rintro e w7 ⟨rfl, n, rfl⟩
  clear SB
  go_wp2_with fail
  go_ret
  exact ⟨rfl, below_drewN W6.out n⟩
end Go.Proofs.YtmennknknecgjaaDoor
