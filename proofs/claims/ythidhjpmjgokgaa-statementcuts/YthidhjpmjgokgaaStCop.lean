/-
  Ours: the statements' copied: the movements in memory of their own, and a mark behind them.
-/
import Derived.Test.YthidhjpmjgokgaaStRow
import Derived.Test.YthidhjpmjgokgaaStLit
namespace Go.Proofs.Ythidhjpmjgokgaa
open Go.RowKit LedM StM

namespace StM
/-- The mark behind the movements. -/
def mkM : List Int := [-7, -7, 0, 0, 0, 0, 0, 0, 0, 0, 0, 0, 0, 0]
theorem mk_ok : MoOk mkM := ⟨rfl, fun k => by
  have h : ∀ x ∈ mkM, i64 x := by
    intro x hx
    unfold mkM at hx
    simp at hx
    unfold i64
    omega
  rw [List.getD_eq_getElem?_getD]
  by_cases hk : k < mkM.length
  · rw [List.getElem?_eq_getElem hk]; exact h _ (List.getElem_mem hk)
  · rw [List.getElem?_eq_none (by omega)]; exact ⟨by simp, by simp⟩⟩
end StM
/-- What copied answers. -/
def CopAns (ms : List (List Int)) (w : World) (e : Ending) (w' : World) : Prop := ∃ g c, e = .returned (.slice (some ⟨g, 0, none⟩) (ms.length + 1) c) ∧ RowMo w.heap.size w' (.slice (some ⟨g, 0, none⟩) (ms.length + 1) c) (ms ++ [mkM]) ∧ Below w.heap.size w w'
set_option maxRecDepth 20000 in
set_option maxHeartbeats 4000000 in
theorem copied_at (ms : List (List Int)) (v : Value) (w : World) (h : RdMo w v ms) (ht : T14 ms) (hn : ms.length ≤ 1000000) : Calls Try.prog 5 #[v] w (CopAns ms w) := by
  obtain ⟨i0, hi0, hz0, hz1, hz2⟩ := info_parts infoM14
  have RD : Hid (∀ w', Below w.heap.size w w' → RdMo w' v ms) := fun w' hb => h.later hb
  obtain ⟨ao, cap, rfl, hcap, hno, _⟩ := h
  have CE : Hid (∀ w', Below w.heap.size w w' → ∀ i m, ms[i]? = some m → ∃ g o, ao = some ⟨g, o, none⟩ ∧ w'.rangeAt g (o + i * 14) (bkL m)) := fun w' hb i m hi => by
    obtain ⟨ao', cap', e, _, _, H⟩ := RD.out w' hb
    injection e with e1 e2 e3
    subst e1
    obtain ⟨g, o, e, _, r⟩ := H i m hi
    exact ⟨g, o, e, r⟩
  obtain ⟨L, hL⟩ : ∃ L, ms.length = L := ⟨_, rfl⟩
  have HL : Hid (ms.length = L) := hL
  have GI : Hid (∀ i, i < L → ∃ m, ms[i]? = some m ∧ m.length = 14) := fun i hi => ⟨_, List.getElem?_eq_getElem (by omega), ht _ (List.getElem_mem (by omega))⟩
  have TL : Hid (∀ k, k ≤ L → (ms.take k).length = k) := fun k hk => by rw [List.length_take]; omega
  unfold CopAns
  rw [hL] at hcap hn ⊢
  clear RD hL hno
  go_enter Try.func5, Try.ntmps5
  go_wp2_with fail
  go_loopw [3, 4] (fun vl vk wr => ∃ (k : Nat) (la : Option Addr) (ln lc : Nat), vk = .int .i64 (k : Int) ∧ vl = .slice la ln lc ∧ k ≤ L ∧ RowMo w.heap.size wr (.slice la ln lc) (ms.take k) ∧ Below w.heap.size w wr) (fun _ vk _ => L - (intOf vk).toNat)
  case atStart => exact ⟨0, none, 0, 0, rfl, rfl, by omega, RowMo.nil _ _, Below.refl _ _⟩
  case round =>
    obtain ⟨k, la, ln, lc, rfl, rfl, hk, hro, hbw⟩ := hrel
    have bsz : w.heap.size ≤ wr.heap.size := hbw.size
    have HB : Hid (Below w.heap.size w wr) := hbw
    have OW : Hid (wr.ownsRow w.heap.size 34 14 (.slice la ln lc) k (bksL (ms.take k))) := by
      have := hro
      unfold RowMo at this
      rw [TL.out k hk] at this
      exact this
    by_cases hlt : (k : Int) < (L : Int)
    · obtain ⟨m, hm, hml⟩ := GI.out k (by omega)
      obtain ⟨g, o, rfl, rg⟩ := CE.out wr hbw k m hm
      have RG : Hid (wr.rangeAt g (o + k * 14) (bkL m)) := rg
      have TS : Hid (bksL (ms.take (k + 1)) = bksL (ms.take k) ++ bkL m) := by show _ = _; rw [take_push hm, msL_push]
      have ML : Hid ((bkL m).length = 14) := by show _ = _; rw [bkL_len, hml]
      have IM : Hid ((Try.prog.info? 34).map (·.size) = some (bkL m).length) := infoMl hml
      have l1 : k + 1 ≤ maxLen := by unfold maxLen; omega
      have l2 : (k + 1) * 112 ≤ 140737488355328 := by omega
      clear rg hro hbw hm hml
      go_wp2_with (first
        | (refine step_load rfl 34 _ rfl g (o + k * 14) rfl (bkL m) _ RG.out Try.underlying34 rfl IM.out ?_)
        | (refine at_slice ?_; refine step_slice1 rfl 22 34 _ rfl i0 (.agg #[.int .i64 0, .int .i64 0, .int .i64 0, .int .i64 0, .int .i64 0, .int .i64 0, .int .i64 0, .int .i64 0, .int .i64 0, .int .i64 0, .int .i64 0, .int .i64 0, .int .i64 0, .int .i64 0]) 14 (by decide) Try.underlying22 hi0 hz0 hz1 (by decide) (bkL m) ML.out rfl ?_)
        | (at_builtin; refine wpList_pushR rfl (.tmp 11) (.tmp 16) 22 rfl 34 i0 (.agg #[.int .i64 0, .int .i64 0, .int .i64 0, .int .i64 0, .int .i64 0, .int .i64 0, .int .i64 0, .int .i64 0, .int .i64 0, .int .i64 0, .int .i64 0, .int .i64 0, .int .i64 0, .int .i64 0]) 14 112 Try.underlying22 hi0 hz0 hz1 hz2 rfl (by decide) w.heap.size (.slice la ln lc) k (bksL (ms.take k)) (bkL m) ML.out (bkL_one m) rfl OW.out bsz rfl l1 l2 ?_; intro g7 n7 c7 w7 o7 gr7 _))
      have R7 : Hid (RowMo w.heap.size w7 (.slice g7 n7 c7) (ms.take (k + 1)) ∧ Below w.heap.size w w7) := ⟨by unfold RowMo; rw [TL.out (k + 1) (by omega), TS.out]; exact o7, HB.out.grown gr7 bsz (fun x e => (World.ownsRow.lt OW.out x e).1)⟩
      clear o7 gr7 OW HB TS
      go_roundw
      case rel => exact ⟨k + 1, _, _, _, by go_num, rfl, by omega, R7.out⟩
      case measure => simp [intOf]; omega
    · obtain rfl : k = L := by omega
      have e1 : ms.take k = ms := List.take_of_length_le (by rw [HL.out]; exact Nat.le_refl _)
      rw [e1] at OW
      have l1 : k + 1 ≤ maxLen := by unfold maxLen; omega
      have l2 : (k + 1) * 112 ≤ 140737488355328 := by omega
      have KF : Hid (∀ w9 v9, w9.ownsRow w.heap.size 34 14 v9 (k + 1) (bksL ms ++ bkL mkM) → ∃ g c, v9 = .slice (some ⟨g, 0, none⟩) (k + 1) c ∧ RowMo w.heap.size w9 (.slice (some ⟨g, 0, none⟩) (k + 1) c) (ms ++ [mkM])) := fun w9 v9 h9 => by
        have h9' := h9
        rcases h9.2 with ⟨_, h0⟩ | ⟨g, c, cur, rfl, _⟩
        · omega
        · refine ⟨g, c, rfl, ?_⟩
          unfold RowMo
          rw [List.length_append, HL.out, msL_push]
          exact h9'
      clear hro hbw CE GI TL HL e1 ht
      go_wp2_with (at_builtin; refine wpList_pushR rfl (.tmp 18) (.tmp 20) 22 rfl 34 i0 (.agg #[.int .i64 0, .int .i64 0, .int .i64 0, .int .i64 0, .int .i64 0, .int .i64 0, .int .i64 0, .int .i64 0, .int .i64 0, .int .i64 0, .int .i64 0, .int .i64 0, .int .i64 0, .int .i64 0]) 14 112 Try.underlying22 hi0 hz0 hz1 hz2 rfl (by decide) w.heap.size (.slice la ln lc) k (bksL ms) (bkL mkM) rfl (bkL_one mkM) rfl OW.out bsz rfl l1 l2 ?_; intro g7 n7 c7 w7 o7 gr7 _)
      go_ret
      obtain ⟨g, c, e, r⟩ := KF.out _ _ o7
      rw [e]
      exact ⟨g, c, rfl, r, HB.out.grown gr7 bsz (fun x e => (World.ownsRow.lt OW.out x e).1)⟩
end Go.Proofs.Ythidhjpmjgokgaa
