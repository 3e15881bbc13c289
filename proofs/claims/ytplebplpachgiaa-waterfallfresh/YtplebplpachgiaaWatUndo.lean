/-
  Ours: Undo.
-/
import Derived.Test.YtplebplpachgiaaWatCash
namespace Go.Proofs.Ytplebplpachgiaa
open Go.RowKit LedM WatM

set_option maxRecDepth 20000 in
set_option maxHeartbeats 1000000 in
theorem undo_at (f i p u r : Int) (w : World) : Calls Try.prog 10 #[.agg (bkL [f, i, p, u, r]).toArray] w fun e w' => ∃ v, e = .returned v ∧ RowE w.heap.size w' v (undoP f i p u r) ∧ Below w.heap.size w w' := by
  have NB : Hid (Blk w.heap.size 23 (bkL [f, i, p, u, r]) (w.alloc (.cells (bkL [f, i, p, u, r]).toArray 23))) := Blk.new 23 (bkL [f, i, p, u, r]) w
  have BB : Hid (Below w.heap.size w (w.alloc (.cells (bkL [f, i, p, u, r]).toArray 23))) := below_alloc w _
  have EN : Hid (∀ w', Calls Try.prog 9 #[.agg (bkL [f, i, p, u, r]).toArray] w' fun e w2 => ∃ v, e = .returned v ∧ RowE w'.heap.size w2 v (entsP f i p u r) ∧ Below w'.heap.size w' w2) := fun w' => entries_at f i p u r w'
  have LN : (entsP f i p u r).length ≤ 5 := entsP_len f i p u r
  have UN : Hid (undoP f i p u r = (entsP f i p u r).map swapE) := rfl
  go_enter Try.func10, Try.ntmps10
  go_wp2_with (refine step_load rfl 23 _ rfl w.heap.size 0 rfl (bkL [f, i, p, u, r]) _ NB.out.all Try.underlying23 rfl infoP ?_)
  refine (EN.out _).mono ?_
  rintro e w1 ⟨v1, rfl, r1, b1⟩
  have R1 : Hid (RowE w.heap.size w1 v1 (entsP f i p u r) ∧ Below w.heap.size w w1) := ⟨RowE.mono r1 BB.out.size, below_trans BB.out b1⟩
  generalize entsP f i p u r = es at *
  obtain ⟨ao, cap, rfl, hcap, -, -⟩ := r1.rd
  obtain ⟨n, hn⟩ : ∃ n, es.length = n := ⟨_, rfl⟩
  have HN : Hid (es.length = n) := hn
  rw [hn] at LN R1 ⊢
  clear r1 b1 NB BB EN hn hcap
  go_wp2_with fail
  go_loopw [4, 5, 10] (fun _ _ vk wr => ∃ k : Nat, vk = .int .i64 (k : Int) ∧ k ≤ n ∧ RowE w.heap.size wr (.slice ao n cap) (swK es k) ∧ Below w.heap.size w wr) (fun _ _ vk _ => n - (intOf vk).toNat)
  case atStart => exact ⟨0, rfl, by omega, by simpa [swK] using R1.out.1, R1.out.2⟩
  case round =>
    clear R1
    obtain ⟨k, rfl, hk, re, bb⟩ := hrel
    by_cases hlt : (k : Int) < (n : Int)
    · have hkl : k < es.length := by have := HN.out; omega
      have SL := swK_len es k (by omega)
      obtain ⟨g, cp, ev, hg, hgl, rg, fz⟩ := RowE.at re (k := k) (by omega)
      injection ev with e1 e2 e3
      subst e1 e3
      clear e2
      rw [swK_at hkl] at rg
      have SW := swK_set hkl
      have RW : Hid (∀ w', Below wr.heap.size wr w' → RowE w.heap.size ((w'.setCell ⟨g, k * 3, none⟩ (.int .i64 (eN es k).c)).setCell ⟨g, k * 3 + 1, none⟩ (.int .i64 (eN es k).d)) (.slice (some ⟨g, 0, none⟩) n cap) (swK es (k + 1))) := fun w' hb => by
        have := RowE.swap (eN es k).c (eN es k).d (RowE.later re hb) (by omega : k < (swK es k).length)
        rw [swK_at hkl] at this
        rw [← SW]
        exact this
      have BW : Hid (∀ w', Below wr.heap.size wr w' → ∀ x y, Below w.heap.size w ((w'.setCell ⟨g, k * 3, none⟩ x).setCell ⟨g, k * 3 + 1, none⟩ y)) := fun w' hb x y =>
        ((below_trans bb hb).grown (setCell_grown w' g (k * 3) x) (below_trans bb hb).size (fun q e => by cases e; exact hg)).grown (setCell_grown _ g (k * 3 + 1) y) (by have := (below_trans bb hb).size; simpa using this) (fun q e => by cases e; exact hg)
      generalize eN es k = x at *
      obtain ⟨xd, xc, xa⟩ := x
      have RG : Hid (wr.rangeAt g (k * 3) [.int .i64 xd, .int .i64 xc, .int .i64 xa]) := rg
      have AL : Below wr.heap.size wr (wr.alloc (.cells #[.int .i64 xd, .int .i64 xc, .int .i64 xa] 35)) := below_alloc wr _
      have d0 : (wr.alloc (.cells #[.int .i64 xd, .int .i64 xc, .int .i64 xa] 35)).cell? ⟨g, k * 3, none⟩ = some (.int .i64 xd) := by rw [AL.cell hgl]; exact rg 0 _ rfl
      have d1 : (wr.alloc (.cells #[.int .i64 xd, .int .i64 xc, .int .i64 xa] 35)).cell? ⟨g, k * 3 + 1, none⟩ = some (.int .i64 xc) := by rw [AL.cell hgl]; exact rg 1 _ rfl
      have z0 : (wr.alloc (.cells #[.int .i64 xd, .int .i64 xc, .int .i64 xa] 35)).frozen? ⟨g, k * 3, none⟩ = false := by rw [AL.frozen hgl]; exact fz _
      have z1 : (wr.alloc (.cells #[.int .i64 xd, .int .i64 xc, .int .i64 xa] 35)).frozen? ⟨g, k * 3 + 1, none⟩ = false := by rw [AL.frozen hgl]; exact fz _
      have N := Blk.new 35 [.int .i64 xd, .int .i64 xc, .int .i64 xa] wr
      have c0 := N.cell 0 _ rfl
      have c1 := N.cell 1 _ rfl
      have AL : Hid (Below wr.heap.size wr (wr.alloc (.cells #[.int .i64 xd, .int .i64 xc, .int .i64 xa] 35))) := AL
      clear re bb fz rg SW N SL hkl
      go_wp2_with (refine step_load rfl 35 _ rfl g (k * 3) rfl [.int .i64 xd, .int .i64 xc, .int .i64 xa] _ RG.out Try.underlying35 rfl (infoE ⟨xd, xc, xa⟩) ?_)
      generalize wr.alloc (.cells #[.int .i64 xd, .int .i64 xc, .int .i64 xa] 35) = w3 at *
      go_region
      all_goals (go_wp2_with fail)
      all_goals exact ⟨⟨k + 1, by go_num, by omega, RW.out w3 AL.out, below_drewN (BW.out w3 AL.out _ _) 1⟩, by simp [intOf]; omega⟩
    · obtain rfl : k = n := by omega
      have RE : Hid (RowE w.heap.size wr (.slice ao k cap) (undoP f i p u r)) := by
        have e : swK es k = undoP f i p u r := by rw [UN.out, ← HN.out]; simp [swK]
        rw [e] at re; exact re
      clear re
      go_wp2_with fail
      go_ret
      refine ⟨_, rfl, ?_, bb⟩
      have h := RE.out
      try rw [HN.out]
      exact h
end Go.Proofs.Ytplebplpachgiaa
