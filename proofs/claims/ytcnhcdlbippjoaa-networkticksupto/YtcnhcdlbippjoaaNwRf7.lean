/-
  Ours: the reference's Send.
-/
import Derived.Test.YtcnhcdlbippjoaaNwRf6
namespace Go.Proofs.Ytcnhcdlbippjoaa
open Go.RowKit NwM
theorem RefAt.more {C C' : Nat → Prop} {w : World} {r : RNt} {v : Value} (h : RefAt C w r v) (hc : ∀ g, C g → C' g) (hl : ∀ g, C' g → g < w.heap.size) : RefAt C' w r v := by
  obtain ⟨aa, an, ac, fa, fn, fc, ma, mn, mc, e, h⟩ := h
  exact ⟨aa, an, ac, fa, fn, fc, ma, mn, mc, e, h.acc, h.fts, h.mss, fun g e => hc g (h.ca g e), fun g e => hc g (h.cf g e), fun g e => hc g (h.cm g e), fun x hx => (h.ba x hx).mono hc, fun x hx => (h.bm x hx).mono hc, hl⟩
theorem RefAt.lt {C : Nat → Prop} {w : World} {r : RNt} {v : Value} (h : RefAt C w r v) : ∀ g, C g → g < w.heap.size := by
  obtain ⟨aa, an, ac, fa, fn, fc, ma, mn, mc, e, h⟩ := h
  exact h.c
/-- The last stores: a network into the answer. -/
theorem rf_fin {C C' : Nat → Prop} {w wr w8 : World} {r' : RNt} {Q P : Nat} {v' : Value} {z0 z1 z2 z3 : Value} (hp : RfPost C' wr r' v' w8) (hQ : w.heap.size = Q) (hP : Q ≤ P) (hPr : P < wr.heap.size) (hC' : ∀ g, C' g → (C g ∨ (Q ≤ g ∧ g ≠ P))) (hC : ∀ g, C g → g < Q) (hb : Below w.heap.size w wr) (B : Blk P 34 [z0, z1, z2, z3] w8) :
    ∃ aa an ac fa fn fc ma mn mc, v' = .agg #[.int .i64 ((r'.now : Nat) : Int), .slice aa an ac, .slice fa fn fc, .slice ma mn mc] ∧
      Blk P 34 [.int .i64 ((r'.now : Nat) : Int), .slice aa an ac, .slice fa fn fc, .slice ma mn mc] ((((w8.setCell ⟨P, 0, none⟩ (.int .i64 ((r'.now : Nat) : Int))).setCell ⟨P, 1, none⟩ (.slice aa an ac)).setCell ⟨P, 2, none⟩ (.slice fa fn fc)).setCell ⟨P, 3, none⟩ (.slice ma mn mc)) ∧
      RfPost C w r' v' ((((w8.setCell ⟨P, 0, none⟩ (.int .i64 ((r'.now : Nat) : Int))).setCell ⟨P, 1, none⟩ (.slice aa an ac)).setCell ⟨P, 2, none⟩ (.slice fa fn fc)).setCell ⟨P, 3, none⟩ (.slice ma mn mc)) := by
  obtain ⟨⟨C2, ⟨aa, an, ac, fa, fn, fc, ma, mn, mc, rfl, hv⟩, h2⟩, b8⟩ := hp
  have s2 := grownBy_trans (grownBy_trans (grownBy_trans (setCell_grown w8 P 0 (.int .i64 ((r'.now : Nat) : Int))) (setCell_grown _ P 1 (.slice aa an ac))) (setCell_grown _ P 2 (.slice fa fn fc))) (setCell_grown _ P 3 (.slice ma mn mc))
  have key : ∀ g, C2 g → C g ∨ (Q ≤ g ∧ g ≠ P) := fun g hg => by
    rcases h2 g hg with hg | hg
    · exact hC' g hg
    · exact .inr ⟨by omega, by omega⟩
  refine ⟨aa, an, ac, fa, fn, fc, ma, mn, mc, rfl, (((B.set (i := 0) _).set (i := 1) _).set (i := 2) _).set (i := 3) _, ⟨⟨C2, ⟨aa, an, ac, fa, fn, fc, ma, mn, mc, rfl, hv.kp (Kp.of_grown s2) (fun g hg e => ?_)⟩, fun g hg => ?_⟩, below_row (below_trans hb b8) s2 (by omega)⟩⟩
  · injection e with e
    rcases key g hg with hg | hg
    · have := hC g hg; omega
    · exact hg.2 e.symm
  · rcases key g hg with hg | hg
    · exact .inl hg
    · exact .inr (by omega)
set_option maxRecDepth 20000 in
set_option maxHeartbeats 2000000 in
theorem rSend_at (C : Nat → Prop) (r : RNt) (w : World) (v : Value) (ack : Bool) (id : Int) (a : Option Addr) (n c : Nat) (bs : List Nat) (h : RefAt C w r v) (hr : RdB w (.slice a n c) bs) (hl : bs.length ≤ 1000000000000) (hnow : r.now ≤ 1000000000) (hms : r.ms.length ≤ 1000000000) (hfs : ∀ f ∈ r.fs, isF f) :
    Calls Try.prog 33 #[v, .agg #[.bool ack, .int .i64 id, .slice a n c]] w fun e w' => ∃ p v', p.ack = false ∧ p.id = id ∧ p.bs = bs ∧ e = .returned v' ∧ RfPost C w (rhand r p) v' w' := by
  obtain ⟨i0, hi0, hz0, hz1, hz2⟩ := info_parts infoB
  have hln : bs.length = n := by
    obtain ⟨_, _, ev, -, -⟩ := hr.len
    injection ev with _ ev _
    rw [ev, List.length_map]
  have RA : Hid (RefAt C w r v) := h
  have HR : Hid (RdB w (.slice a n c) bs ∧ bs.length = n) := ⟨hr, hln⟩
  have HF : Hid (r.now ≤ 1000000000 ∧ r.ms.length ≤ 1000000000 ∧ ∀ f ∈ r.fs, isF f) := ⟨hnow, hms, hfs⟩
  rw [hln] at hl
  obtain ⟨aa, an, ac, fa, fn, fc, ma, mn, mc, rfl, h⟩ := h
  clear h hr hln hfs hnow hms
  go_enter Try.func33, Try.ntmps33
  go_upto_region 2 with fail
  have K1 : Hid (Blk w.heap.size 34 [.int .i64 ((r.now : Nat) : Int), .slice aa an ac, .slice fa fn fc, .slice ma mn mc] (((w.alloc (.cells #[.int .i64 ((r.now : Nat) : Int), .slice aa an ac, .slice fa fn fc, .slice ma mn mc] 34)).alloc (.cells #[.bool ack, .int .i64 id, .slice a n c] 80)).alloc (.cells #[.int .i64 0, .slice none 0 0, .slice none 0 0, .slice none 0 0] 34)) ∧ Blk (w.heap.size + 1) 80 [.bool ack, .int .i64 id, .slice a n c] (((w.alloc (.cells #[.int .i64 ((r.now : Nat) : Int), .slice aa an ac, .slice fa fn fc, .slice ma mn mc] 34)).alloc (.cells #[.bool ack, .int .i64 id, .slice a n c] 80)).alloc (.cells #[.int .i64 0, .slice none 0 0, .slice none 0 0, .slice none 0 0] 34)) ∧ Blk (w.heap.size + 1 + 1) 34 [.int .i64 0, .slice none 0 0, .slice none 0 0, .slice none 0 0] (((w.alloc (.cells #[.int .i64 ((r.now : Nat) : Int), .slice aa an ac, .slice fa fn fc, .slice ma mn mc] 34)).alloc (.cells #[.bool ack, .int .i64 id, .slice a n c] 80)).alloc (.cells #[.int .i64 0, .slice none 0 0, .slice none 0 0, .slice none 0 0] 34)) ∧ (((w.alloc (.cells #[.int .i64 ((r.now : Nat) : Int), .slice aa an ac, .slice fa fn fc, .slice ma mn mc] 34)).alloc (.cells #[.bool ack, .int .i64 id, .slice a n c] 80)).alloc (.cells #[.int .i64 0, .slice none 0 0, .slice none 0 0, .slice none 0 0] 34)).heap.size = w.heap.size + 3) := ⟨((Blk.new _ _ _).old _).old _, (Blk.new2 _ _ _ _).old _, Blk.new3 _ _ _ _ _, by simp⟩
  have KB : Hid (Below w.heap.size w (((w.alloc (.cells #[.int .i64 ((r.now : Nat) : Int), .slice aa an ac, .slice fa fn fc, .slice ma mn mc] 34)).alloc (.cells #[.bool ack, .int .i64 id, .slice a n c] 80)).alloc (.cells #[.int .i64 0, .slice none 0 0, .slice none 0 0, .slice none 0 0] 34))) := below_trans (below_trans (below_alloc _ _) (below_alloc _ _)) (below_alloc _ _)
  obtain ⟨Q, hQ⟩ : ∃ Q, w.heap.size = Q := ⟨_, rfl⟩
  rw [hQ] at K1 ⊢
  have HQ : Hid (w.heap.size = Q) := hQ
  clear hQ
  generalize ((w.alloc (.cells #[.int .i64 ((r.now : Nat) : Int), .slice aa an ac, .slice fa fn fc, .slice ma mn mc] 34)).alloc (.cells #[.bool ack, .int .i64 id, .slice a n c] 80)).alloc (.cells #[.int .i64 0, .slice none 0 0, .slice none 0 0, .slice none 0 0] 34) = w1 at *
  go_wp2_with fail
  go_loopw [6, 5] (fun vk vl wr => ∃ k : Nat, vk = .int .i64 (k : Int) ∧ k ≤ n ∧ RowV 5 w1.heap.size wr vl ((bs.take k).map bv) ∧ Below w1.heap.size w1 wr) (fun vk _ _ => n - (intOf vk).toNat)
  case atStart => exact ⟨0, rfl, by omega, RowV.nil _ _ _, Below.refl _ _⟩
  case round =>
    obtain ⟨k, rfl, hk, hro, hbw⟩ := hrel
    have p2 := (K1.out.2.1.below hbw).cell 2 _ rfl
    have lP : Q + 1 < wr.heap.size := (K1.out.2.1.below hbw).lt
    by_cases hlt : (k : Int) < (n : Int)
    · obtain ⟨x, hx⟩ : ∃ x, bs[k]? = some x := ⟨bs[k]'(by rw [HR.out.2]; omega), List.getElem?_eq_getElem _⟩
      obtain ⟨g, o, rfl, lg, y0⟩ := rd_at (Rd.later HR.out.1 (below_trans KB.out hbw)) (i := k) (u := bv x) (by rw [List.getElem?_map, hx]; rfl)
      have TS : Hid ((bs.take (k + 1)).map bv = (bs.take k).map bv ++ [bv x]) := by show _ = _; rw [List.take_add_one, hx]; simp
      have hkN : k < n := by omega
      have HK : Hid (((bs.take k).map bv).length = k) := by show _ = _; rw [List.length_map, List.length_take, HR.out.2]; omega
      have l1 : ((bs.take k).map bv).length + 1 ≤ maxLen := by rw [HK.out]; unfold maxLen; omega
      have l2 : (((bs.take k).map bv).length + 1) * 1 ≤ 140737488355328 := by rw [HK.out]; omega
      obtain ⟨xs, hxs⟩ : ∃ xs, (bs.take k).map bv = xs := ⟨_, rfl⟩
      rw [hxs] at hro l1 l2 TS
      have OW : Hid (RowV 5 w1.heap.size wr u5 xs ∧ Below w1.heap.size w1 wr) := ⟨hro, hbw⟩
      have bsz : w1.heap.size ≤ wr.heap.size := hbw.size
      unfold bv at y0
      clear hx hro hbw hxs HK
      go_wp2_with (at_builtin; refine wpList_pushV rfl (.tmp 14) (.tmp 20) 31 rfl 5 i0 (.int .u8 0) 1 underB hi0 hz0 hz1 hz2 rfl w1.heap.size _ xs (bv x) rfl rfl OW.out.1 bsz rfl l1 l2 ?_; intro v7 w7 o7 gr7)
      have F7 : Hid (RowV 5 w1.heap.size w7 v7 ((bs.take (k + 1)).map bv) ∧ Below w1.heap.size w1 w7) := ⟨by rw [TS.out]; exact o7, below_grown OW.out.2 OW.out.1 (Nat.le_refl _) bsz gr7⟩
      clear o7 gr7 OW TS
      go_roundw
      case rel => exact ⟨k + 1, by go_num, by omega, F7.out⟩
      case measure => simp [intOf]; omega
    · obtain rfl : k = n := by omega
      rw [List.take_of_length_le (by rw [HR.out.2]; exact Nat.le_refl _)] at hro
      obtain ⟨a5, c5, rfl, -, -⟩ := (RowV.rd hro).len
      rw [List.length_map, HR.out.2] at hro ⊢
      have OW : Hid (RowV 5 w1.heap.size wr (.slice a5 k c5) (bs.map bv) ∧ Below w1.heap.size w1 wr) := ⟨hro, hbw⟩
      clear hro hbw
      have q0 := (K1.out.1.below OW.out.2).cell 0 _ rfl
      have q1 := (K1.out.1.below OW.out.2).cell 1 _ rfl
      have q2 := (K1.out.1.below OW.out.2).cell 2 _ rfl
      have q3 := (K1.out.1.below OW.out.2).cell 3 _ rfl
      have p1 := (K1.out.2.1.below OW.out.2).cell 1 _ rfl
      have lQ := (K1.out.1.below OW.out.2).lt
      have WB : Hid (Below w.heap.size w wr) := below_trans KB.out OW.out.2
      have HD : Hid (Calls Try.prog 41 #[.agg #[.int .i64 ((r.now : Nat) : Int), .slice aa an ac, .slice fa fn fc, .slice ma mn mc], .agg #[.bool false, .int .i64 id, .slice a5 k c5, .int .i64 0, .int .i64 0]] wr (HdAns (fun g => C g ∨ (Value.slice a5 k c5).ownBlock = some g) r ⟨false, id, a5, k, c5, bs⟩ wr)) := by
        refine handed_at _ r ⟨false, id, a5, k, c5, bs⟩ wr _ ((RA.out.below WB.out).more (fun g hg => .inl hg) (fun g hg => ?_)) ⟨RowV.rd OW.out.1, fun g hg => .inr hg⟩ HF.out.1 HF.out.2.1 HF.out.2.2
        rcases hg with hg | hg
        · exact (RA.out.below WB.out).lt g hg
        · exact OW.out.1.block_lt hg
      go_wp2_with fail
      refine HD.out.mono ?_
      rintro e w8 ⟨v8, rfl, P8⟩
      have B8 := (K1.out.2.2.1.below OW.out.2).below P8.2
      obtain ⟨ab, bn, bc, fb, gn, gc, mb, nn, nc, rfl, bk, pp⟩ := rf_fin (C := C) P8 HQ.out (P := Q + 1 + 1) (by omega) (by have := OW.out.2.size; have := K1.out.2.2.2; omega) (fun g hg => hg.imp (fun h => h) (fun hg => by have := OW.out.1.block_ge hg; have := K1.out.2.2.2; omega)) (fun g hg => by have := RA.out.lt g hg; have := HQ.out; omega) WB.out B8
      have PP := (show Hid (RfPost C w (rhand r ⟨false, id, a5, k, c5, bs⟩) _ _) from pp)
      have BK := (show Hid _ from bk)
      have dd0 := B8.cell 0 _ rfl
      have dd1 := B8.cell 1 _ rfl
      have dd2 := B8.cell 2 _ rfl
      have dd3 := B8.cell 3 _ rfl
      have ff := B8.fz
      have lt8 := B8.lt
      clear HD P8 bk pp B8
      go_wp2_with fail
      exact ret_blk rfl rfl (Q + 1 + 1) _ [.int .i64 (((rhand r ⟨false, id, a5, k, c5, bs⟩).now : Nat) : Int), .slice ab bn bc, .slice fb gn gc, .slice mb nn nc] _ rfl BK.out Try.underlying34 rfl (by kernel_rfl) ⟨⟨false, id, a5, k, c5, bs⟩, _, rfl, rfl, rfl, rfl, PP.out⟩
end Go.Proofs.Ytcnhcdlbippjoaa
