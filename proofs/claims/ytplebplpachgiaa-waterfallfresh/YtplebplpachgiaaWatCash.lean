/-
  Ours: intoCash, Entries.
-/
import Derived.Test.YtplebplpachgiaaWatMv
namespace Go.Proofs.Ytplebplpachgiaa
open Go.RowKit LedM WatM

set_option maxRecDepth 20000 in
set_option maxHeartbeats 1000000 in
theorem intoCash_at (cs : List (Int × Int)) (G n : Nat) (w : World) (hn : n = cs.length) (hl : n ≤ 1000) (h : ∀ k, k < n → w.rangeAt G (k * 2) (crV (cN cs k))) (hG : G < w.heap.size) : Calls Try.prog 15 #[.slice (some ⟨G, 0, none⟩) n n] w fun e w' => ∃ v, e = .returned v ∧ RowE w.heap.size w' v (cashE cs) ∧ Below w.heap.size w w' := by
  have CE : Hid (∀ w', Below w.heap.size w w' → ∀ k, k < n → w'.rangeAt G (k * 2) (crV (cN cs k))) := fun w' hb k hk j u hj => by
    have := h k hk j u hj
    rw [← this]
    exact hb.cell hG
  have TK : Hid (∀ k, k < n → cashE (cs.take (k + 1)) = if 0 < (cN cs k).2 then cashE (cs.take k) ++ [⟨0, (cN cs k).1, (cN cs k).2⟩] else cashE (cs.take k)) := fun k hk => cashE_take (by omega)
  have TN : Hid (cashE (cs.take n) = cashE cs) := by show _ = _; rw [hn, List.take_of_length_le (Nat.le_refl _)]
  have LN : Hid (∀ k, (cashE (cs.take k)).length ≤ n) := fun k => by have := cashE_len (cs.take k); rw [List.length_take] at this; omega
  clear h hn hG
  go_enter Try.func15, Try.ntmps15
  go_wp2_with fail
  go_loopw [3, 5, 8] (fun ve _ vk wr => ∃ k : Nat, vk = .int .i64 (k : Int) ∧ k ≤ n ∧ RowE w.heap.size wr ve (cashE (cs.take k)) ∧ Below w.heap.size w wr) (fun _ _ vk _ => n - (intOf vk).toNat)
  case atStart => exact ⟨0, rfl, by omega, RowE.nil _ _, Below.refl _ _⟩
  case round =>
    obtain ⟨k, rfl, hk, re, bb⟩ := hrel
    by_cases hlt : (k : Int) < (n : Int)
    · have RG : Hid (wr.rangeAt G (k * 2) (crV (cN cs k))) := CE.out wr bb k (by omega)
      have TE := TK.out k (by omega)
      have ln : Hid ((cashE (cs.take k)).length ≤ 1000) := by have := LN.out k; show _ ≤ _; omega
      generalize cN cs k = c at *
      obtain ⟨ck, ca⟩ := c
      have RG : Hid (wr.rangeAt G (k * 2) [.int .i64 ck, .int .i64 ca]) := RG
      have BB : Hid (Below w.heap.size w wr ∧ RowE w.heap.size wr u3 (cashE (cs.take k))) := ⟨bb, re⟩
      clear bb re CE
      by_cases hp : 0 < ca
      · rw [if_pos hp] at TE
        have TE : Hid (_ = _) := TE
        have AL : Hid (Below wr.heap.size wr ((wr.alloc (.cells #[.int .i64 ck, .int .i64 ca] 40)).alloc (.cells #[.int .i64 0, .int .i64 ck, .int .i64 ca] 35))) := (below_alloc wr _).alloc (by simp) _
        have ON : Hid (RdE ((wr.alloc (.cells #[.int .i64 ck, .int .i64 ca] 40)).alloc (.cells #[.int .i64 0, .int .i64 ck, .int .i64 ca] 35)) (.slice (some ⟨wr.heap.size + 1, 0, none⟩) 1 1) [⟨0, ck, ca⟩]) := by
          have := RdE.one (wr.alloc (.cells #[.int .i64 ck, .int .i64 ca] 40)) ⟨0, ck, ca⟩
          rw [show (wr.alloc (.cells #[.int .i64 ck, .int .i64 ca] 40)).heap.size = wr.heap.size + 1 from by simp] at this
          exact this
        go_wp2_with (first
          | (refine step_load rfl 40 _ rfl G (k * 2) rfl [.int .i64 ck, .int .i64 ca] _ RG.out Try.underlying40 rfl (by kernel_rfl) ?_)
          | (at_builtin; refine wpList_catE rfl (.tmp 15) (.tmp 21) rfl w.heap.size u3 (.slice (some ⟨wr.heap.size + 1, 0, none⟩) 1 1) (cashE (cs.take k)) [⟨0, ck, ca⟩] rfl (RowE.later BB.out.2 AL.out) (Nat.le_trans BB.out.1.size AL.out.size) rfl ON.out (by have := ln.out; simp; omega) ?_; intro v5 w5 r5 g5))
        go_roundw
        case rel => exact ⟨k + 1, by go_num, by omega, by rw [TE.out]; exact r5, (below_trans BB.out.1 AL.out).grown g5 (below_trans BB.out.1 AL.out).size (fun g hg => RowE.ge BB.out.2 hg)⟩
        case measure => simp [intOf]; omega
      · rw [if_neg hp] at TE
        have TE : Hid (_ = _) := TE
        have AL : Hid (Below wr.heap.size wr (wr.alloc (.cells #[.int .i64 ck, .int .i64 ca] 40))) := below_alloc wr _
        go_wp2_with (refine step_load rfl 40 _ rfl G (k * 2) rfl [.int .i64 ck, .int .i64 ca] _ RG.out Try.underlying40 rfl (by kernel_rfl) ?_)
        go_roundw
        case rel => exact ⟨k + 1, by go_num, by omega, by rw [TE.out]; exact RowE.later BB.out.2 AL.out, below_trans BB.out.1 AL.out⟩
        case measure => simp [intOf]; omega
    · obtain rfl : k = n := by omega
      rw [TN.out] at re
      have RE : Hid (RowE w.heap.size wr u3 (cashE cs)) := re
      clear re
      go_wp2_with fail
      go_ret
      exact ⟨_, rfl, RE.out, bb⟩

set_option maxRecDepth 20000 in
set_option maxHeartbeats 1000000 in
theorem entries_at (f i p u r : Int) (w : World) : Calls Try.prog 9 #[.agg (bkL [f, i, p, u, r]).toArray] w fun e w' => ∃ v, e = .returned v ∧ RowE w.heap.size w' v (entsP f i p u r) ∧ Below w.heap.size w w' := by
  have NB := Blk.new 23 (bkL [f, i, p, u, r]) w
  have b0 := NB.cell 0 _ rfl
  have b1 := NB.cell 1 _ rfl
  have b2 := NB.cell 2 _ rfl
  have b3 := NB.cell 3 _ rfl
  have b4 := NB.cell 4 _ rfl
  have BB : Hid (Below w.heap.size w (w.alloc (.cells (bkL [f, i, p, u, r]).toArray 23))) := below_alloc w _
  clear NB
  generalize bkL [f, i, p, u, r] = cs at *
  have CC : Hid (Calls Try.prog 15 #[.slice (some ⟨w.heap.size + 1, 0, none⟩) 5 5] ((w.alloc (.cells cs.toArray 23)).alloc (.cells #[.int .i64 3, .int .i64 f, .int .i64 2, .int .i64 i, .int .i64 1, .int .i64 p, .int .i64 4, .int .i64 u, .int .i64 10, .int .i64 r] 40)) fun e w' => ∃ v, e = .returned v ∧ RowE w.heap.size w' v (entsP f i p u r) ∧ Below w.heap.size w w') := by
    have hz : (w.alloc (.cells cs.toArray 23)).heap.size = w.heap.size + 1 := by simp
    rw [← hz]
    generalize w.alloc (.cells cs.toArray 23) = w1 at *
    have NC : ∀ k, k < 5 → (w1.alloc (.cells #[.int .i64 3, .int .i64 f, .int .i64 2, .int .i64 i, .int .i64 1, .int .i64 p, .int .i64 4, .int .i64 u, .int .i64 10, .int .i64 r] 40)).rangeAt w1.heap.size (k * 2) (crV (cN (crs f i p u r) k)) := fun k hk => by
      have h : Blk w1.heap.size 40 (crL (crs f i p u r)) (w1.alloc (.cells #[.int .i64 3, .int .i64 f, .int .i64 2, .int .i64 i, .int .i64 1, .int .i64 p, .int .i64 4, .int .i64 u, .int .i64 10, .int .i64 r] 40)) := Blk.new 40 (crL (crs f i p u r)) w1
      rw [← crL_range _ _ (by simpa using hk)]
      exact h.range _ _
    exact (intoCash_at (crs f i p u r) w1.heap.size 5 _ rfl (by decide) NC (by simp)).mono fun e w' ⟨v, a, b, c⟩ => ⟨v, a, b.mono (by have := BB.out.size; simp; omega), below_trans (BB.out.alloc BB.out.size _) c⟩
  clear BB
  go_enter Try.func9, Try.ntmps9
  go_wp2_with fail
  refine CC.out.mono ?_
  rintro e w2 ⟨v2, rfl, r2, b2'⟩
  have R2 : Hid (RowE w.heap.size w2 v2 (entsP f i p u r) ∧ Below w.heap.size w w2) := ⟨r2, b2'⟩
  clear r2 b2' CC
  go_wp2_with fail
  go_ret
  exact ⟨_, rfl, R2.out⟩
end Go.Proofs.Ytplebplpachgiaa
