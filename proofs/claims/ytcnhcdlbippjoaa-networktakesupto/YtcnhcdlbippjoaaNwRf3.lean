/-
  Ours: the reference's handed, where a fate waits (d).
-/
import Derived.Test.YtcnhcdlbippjoaaNwRf1
namespace Go.Proofs.Ytcnhcdlbippjoaa
open Go.RowKit NwM
set_option maxRecDepth 40000 in
set_option maxHeartbeats 8000000 in
theorem handed_d1 (C : Nat → Prop) (r : RNt) (p : Pk) (w : World) (aa : Option Addr) (an ac : Nat) (fa : Option Addr) (fn fc : Nat) (ma : Option Addr) (mn mc : Nat) (h : RefV C w r aa an ac fa fn fc ma mn mc) (hp : Bd C w p.ba p.bn p.bc p.bs) (hnow : r.now ≤ 1000000000) (hms : r.ms.length ≤ 1000000000) (f : Nat) (fs : List Nat) (hx : f = 100) (hf : r.fs = f :: fs) (h1 : fc = 1) :
    Calls Try.prog 41 #[.agg #[.int .i64 ((r.now : Nat) : Int), .slice aa an ac, .slice fa fn fc, .slice ma mn mc], .agg #[.bool p.ack, .int .i64 p.id, .slice p.ba p.bn p.bc, .int .i64 0, .int .i64 0]] w (HdAns C r p w) := by
  obtain ⟨i0, hi0, hz0, hz1, hz2⟩ := info_parts infoMs
  obtain ⟨N, hN⟩ : ∃ N, r.ms.length = N := ⟨_, rfl⟩
  have HN : Hid (r.ms.length = N) := hN
  have hmn : mn = N := by
    obtain ⟨_, _, ev⟩ := h.mss.len
    injection ev with _ ev _
    rw [ev, hN]
  subst hmn
  have RM : Hid (RowM 0 w (.slice ma mn mc) r.ms) := h.mss
  have HR : Hid (RefV C w r aa an ac fa fn fc ma mn mc ∧ Bd C w p.ba p.bn p.bc p.bs) := ⟨h, hp⟩
  rw [hN] at hms
  clear hN hp
  obtain ⟨gf, of, cf, ev, lgf, c0⟩ := RdB.first (by have := h.fts; rw [hf] at this; exact this)
  injection ev with e1 e2 e3
  subst e1 e2 e3
  have hle : fs.length + 1 ≤ fc := by
    obtain ⟨_, _, e, h2, _⟩ := h.fts
    injection e with _ _ e3
    rw [hf] at h2
    simp at h2
    omega
  subst hx
  subst h1
  obtain h0 : fs.length = 0 := by omega
  rw [h0] at h
  have HC : Hid (r.fs.headD 49 ≠ 120 ∧ rmsg p r.now (r.fs.headD 49) = ⟨p.ack, p.id, p.ba, p.bn, p.bc, p.bs, r.now + 1, r.now + 2⟩) := by
    show _ ∧ _
    rw [hf]
    exact ⟨by simp, rfl⟩
  have hft := h.fts
  rw [hf] at hft
  have RR : Hid (RefV C w (rfate1 r) aa an ac (some ⟨gf, of, none⟩) 0 0 ma mn mc) := ⟨h.acc, (by show RdB w _ r.fs.tail; rw [hf]; exact Rd.tail1 hft (fun h => by omega)), h.mss, h.ca, h.cf, h.cm, h.ba, h.bm, h.c⟩
  clear h hft hf
  rw [h0]
  clear h0
  have c0w : (((w.alloc (.cells #[.int .i64 ((r.now : Nat) : Int), .slice aa an ac, .slice (some ⟨gf, of, none⟩) 1 1, .slice ma mn mc] 34)).alloc (.cells #[.bool p.ack, .int .i64 p.id, .slice p.ba p.bn p.bc, .int .i64 0, .int .i64 0] 84)).alloc (.cells #[.int .i64 0, .slice none 0 0, .slice none 0 0, .slice none 0 0] 34)).cell? ⟨gf, of, none⟩ = some (.int .u8 (100 : Int)) := by
    exact ((below_trans (below_trans (below_alloc _ _) (below_alloc _ _)) (below_alloc _ _) : Below w.heap.size w _).cell lgf).trans c0
  clear c0
  go_enter Try.func41, Try.ntmps41
  go_upto_region 12 with fail
  have K1 : Hid (Blk w.heap.size 34 [.int .i64 ((r.now : Nat) : Int), .slice aa an ac, .slice (some ⟨gf, of, none⟩) 0 0, .slice ma mn mc] (((w.alloc (.cells #[.int .i64 ((r.now : Nat) : Int), .slice aa an ac, .slice (some ⟨gf, of, none⟩) 0 0, .slice ma mn mc] 34)).alloc (.cells #[.bool p.ack, .int .i64 p.id, .slice p.ba p.bn p.bc, .int .i64 (((r.now : Nat) : Int) + 1), .int .i64 (((r.now : Nat) : Int) + 2)] 84)).alloc (.cells #[.int .i64 0, .slice none 0 0, .slice none 0 0, .slice none 0 0] 34)) ∧ Blk (w.heap.size + 1) 84 [.bool p.ack, .int .i64 p.id, .slice p.ba p.bn p.bc, .int .i64 (((r.now : Nat) : Int) + 1), .int .i64 (((r.now : Nat) : Int) + 2)] (((w.alloc (.cells #[.int .i64 ((r.now : Nat) : Int), .slice aa an ac, .slice (some ⟨gf, of, none⟩) 0 0, .slice ma mn mc] 34)).alloc (.cells #[.bool p.ack, .int .i64 p.id, .slice p.ba p.bn p.bc, .int .i64 (((r.now : Nat) : Int) + 1), .int .i64 (((r.now : Nat) : Int) + 2)] 84)).alloc (.cells #[.int .i64 0, .slice none 0 0, .slice none 0 0, .slice none 0 0] 34)) ∧ Blk (w.heap.size + 1 + 1) 34 [.int .i64 0, .slice none 0 0, .slice none 0 0, .slice none 0 0] (((w.alloc (.cells #[.int .i64 ((r.now : Nat) : Int), .slice aa an ac, .slice (some ⟨gf, of, none⟩) 0 0, .slice ma mn mc] 34)).alloc (.cells #[.bool p.ack, .int .i64 p.id, .slice p.ba p.bn p.bc, .int .i64 (((r.now : Nat) : Int) + 1), .int .i64 (((r.now : Nat) : Int) + 2)] 84)).alloc (.cells #[.int .i64 0, .slice none 0 0, .slice none 0 0, .slice none 0 0] 34)) ∧ (((w.alloc (.cells #[.int .i64 ((r.now : Nat) : Int), .slice aa an ac, .slice (some ⟨gf, of, none⟩) 0 0, .slice ma mn mc] 34)).alloc (.cells #[.bool p.ack, .int .i64 p.id, .slice p.ba p.bn p.bc, .int .i64 (((r.now : Nat) : Int) + 1), .int .i64 (((r.now : Nat) : Int) + 2)] 84)).alloc (.cells #[.int .i64 0, .slice none 0 0, .slice none 0 0, .slice none 0 0] 34)).heap.size = w.heap.size + 3) := ⟨((Blk.new _ _ _).old _).old _, (Blk.new2 _ _ _ _).old _, Blk.new3 _ _ _ _ _, by simp⟩
  have KB : Hid (Below w.heap.size w (((w.alloc (.cells #[.int .i64 ((r.now : Nat) : Int), .slice aa an ac, .slice (some ⟨gf, of, none⟩) 0 0, .slice ma mn mc] 34)).alloc (.cells #[.bool p.ack, .int .i64 p.id, .slice p.ba p.bn p.bc, .int .i64 (((r.now : Nat) : Int) + 1), .int .i64 (((r.now : Nat) : Int) + 2)] 84)).alloc (.cells #[.int .i64 0, .slice none 0 0, .slice none 0 0, .slice none 0 0] 34))) := below_trans (below_trans (below_alloc _ _) (below_alloc _ _)) (below_alloc _ _)
  obtain ⟨Q, hQ⟩ : ∃ Q, w.heap.size = Q := ⟨_, rfl⟩
  rw [hQ] at K1 ⊢
  have HQ : Hid (w.heap.size = Q) := hQ
  clear hQ
  generalize ((w.alloc (.cells #[.int .i64 ((r.now : Nat) : Int), .slice aa an ac, .slice (some ⟨gf, of, none⟩) 0 0, .slice ma mn mc] 34)).alloc (.cells #[.bool p.ack, .int .i64 p.id, .slice p.ba p.bn p.bc, .int .i64 (((r.now : Nat) : Int) + 1), .int .i64 (((r.now : Nat) : Int) + 2)] 84)).alloc (.cells #[.int .i64 0, .slice none 0 0, .slice none 0 0, .slice none 0 0] 34) = w1 at *
  go_wp2_with fail
  go_loopw [7, 6] (fun vk vl wr => ∃ k : Nat, ∃ la ln lc, vk = .int .i64 (k : Int) ∧ vl = .slice la ln lc ∧ k ≤ mn ∧ wr.ownsRow w1.heap.size 84 5 (.slice la ln lc) k ((r.ms.take k).flatMap msL) ∧ Below w1.heap.size w1 wr) (fun vk _ _ => mn - (intOf vk).toNat)
  case atStart => exact ⟨0, none, 0, 0, rfl, rfl, by omega, World.ownsRow_nil _ _ _ _, Below.refl _ _⟩
  case round =>
    obtain ⟨k, la, ln, lc, rfl, rfl, hk, hro, hbw⟩ := hrel
    have q3 := (K1.out.1.below hbw).cell 3 _ rfl
    have lQ : Q < wr.heap.size := (K1.out.1.below hbw).lt
    by_cases hlt : (k : Int) < (mn : Int)
    · obtain ⟨x, hx⟩ : ∃ x, r.ms[k]? = some x := ⟨r.ms[k]'(by rw [HN.out]; omega), List.getElem?_eq_getElem _⟩
      obtain ⟨gm, rfl, lgm, y0, y1, y2, y3, y4⟩ := RowM.at (own_grown RM.out (grownBy_below (below_trans KB.out hbw) none) (fun _ _ => by simp)) hx
      have TS : Hid ((r.ms.take (k + 1)).flatMap msL = (r.ms.take k).flatMap msL ++ msL x) := by show _ = _; rw [List.take_add_one, hx, List.flatMap_append]; simp
      have OW : Hid (wr.ownsRow w1.heap.size 84 5 (.slice la ln lc) k ((r.ms.take k).flatMap msL)) := hro
      have HB : Hid (Below w1.heap.size w1 wr) := hbw
      have bsz : w1.heap.size ≤ wr.heap.size := hbw.size
      have l1 : k + 1 ≤ maxLen := by unfold maxLen; omega
      have l2 : (k + 1) * 56 ≤ 140737488355328 := by omega
      have hkN : k < mn := by omega
      clear hro hbw hx
      go_wp2_with (at_builtin; refine wpList_pushR rfl (.tmp 48) (.tmp 54) 32 rfl 84 i0 (.agg #[.bool false, .int .i64 0, .slice none 0 0, .int .i64 0, .int .i64 0]) 5 56 Try.underlying32 hi0 hz0 hz1 hz2 rfl (by decide) w1.heap.size _ k ((r.ms.take k).flatMap msL) (msL x) rfl (msL_one x) rfl OW.out bsz rfl l1 l2 ?_; intro g7 cp7 w7 o7 gr7 at7)
      have F7 : Hid (w7.ownsRow w1.heap.size 84 5 (.slice (some ⟨g7, 0, none⟩) (k + 1) cp7) (k + 1) ((r.ms.take (k + 1)).flatMap msL) ∧ Below w1.heap.size w1 w7) := ⟨by rw [TS.out]; exact o7, HB.out.grown gr7 bsz (fun x e => (own_heap OW.out e).1)⟩
      clear o7 gr7 at7 OW HB TS
      go_roundw
      case rel => exact ⟨k + 1, _, _, _, by go_num, rfl, by omega, F7.out⟩
      case measure => simp [intOf]; omega
    · obtain rfl : k = mn := by omega
      have e1 : r.ms.take k = r.ms := List.take_of_length_le (by rw [HN.out]; exact Nat.le_refl _)
      rw [e1] at hro
      have OW : Hid (wr.ownsRow w1.heap.size 84 5 (.slice la ln lc) k (r.ms.flatMap msL)) := hro
      have HB : Hid (Below w1.heap.size w1 wr) := hbw
      have bsz : w1.heap.size ≤ wr.heap.size := hbw.size
      have BQ := K1.out.1.below hbw
      have BM := K1.out.2.1.below hbw
      have BR := K1.out.2.2.1.below hbw
      have m0 := BM.cell 0 _ rfl
      have m1 := BM.cell 1 _ rfl
      have m2 := BM.cell 2 _ rfl
      have m3 := BM.cell 3 _ rfl
      have m4 := BM.cell 4 _ rfl
      have lM := BM.lt
      have BB : Hid (Blk Q 34 [.int .i64 ((r.now : Nat) : Int), .slice aa an ac, .slice (some ⟨gf, of, none⟩) 0 0, .slice ma k mc] wr ∧ Blk (Q + 1 + 1) 34 [.int .i64 0, .slice none 0 0, .slice none 0 0, .slice none 0 0] wr) := ⟨BQ, BR⟩
      have l1 : k + 1 ≤ maxLen := by unfold maxLen; omega
      have l2 : (k + 1) * 56 ≤ 140737488355328 := by omega
      clear hro hbw BQ BM BR
      go_upto_region 17 with fail
      go_wp2_with (at_builtin; refine wpList_pushR rfl (.tmp 56) (.tmp 58) 32 rfl 84 i0 (.agg #[.bool false, .int .i64 0, .slice none 0 0, .int .i64 0, .int .i64 0]) 5 56 Try.underlying32 hi0 hz0 hz1 hz2 rfl (by decide) w1.heap.size _ k (r.ms.flatMap msL) [.bool p.ack, .int .i64 p.id, .slice p.ba p.bn p.bc, .int .i64 (((r.now : Nat) : Int) + 1), .int .i64 (((r.now : Nat) : Int) + 2)] rfl (msL_one (⟨p.ack, p.id, p.ba, p.bn, p.bc, p.bs, (r.now + 1), (r.now + 2)⟩ : Ms)) rfl OW.out bsz rfl l1 l2 ?_; intro g7 cp7 w7 o7 gr7 at7; have z1 : w1.heap.size = Q + 3 := K1.out.2.2.2; have zb : ∀ y, (Value.slice la ln lc).ownBlock = some y → w1.heap.size ≤ y := (fun y e => (own_heap OW.out e).1); have B7 := BB.out.1.grown gr7 (fun e => by have := zb Q e; omega); have B8 := BB.out.2.grown gr7 (fun e => by have := zb (Q + 1 + 1) e; omega); have cc0 := B7.cell 0 _ rfl; have cc1 := B7.cell 1 _ rfl; have cc2 := B7.cell 2 _ rfl; have cc3 := B7.cell 3 _ rfl; have ff3 := B7.fz 3; have lt7 := B7.lt; have dd0 := B8.cell 0 _ rfl; have dd1 := B8.cell 1 _ rfl; have dd2 := B8.cell 2 _ rfl; have dd3 := B8.cell 3 _ rfl; have ff := B8.fz; have lt8 := B8.lt; have P7 : Hid (Blk Q 34 [.int .i64 ((r.now : Nat) : Int), .slice aa an ac, .slice (some ⟨gf, of, none⟩) 0 0, .slice ma k mc] w7 ∧ Blk (Q + 1 + 1) 34 [.int .i64 0, .slice none 0 0, .slice none 0 0, .slice none 0 0] w7 ∧ w7.ownsRow w1.heap.size 84 5 (.slice (some ⟨g7, 0, none⟩) (k + 1) cp7) (k + 1) (r.ms.flatMap msL ++ msL (⟨p.ack, p.id, p.ba, p.bn, p.bc, p.bs, (r.now + 1), (r.now + 2)⟩ : Ms)) ∧ Below w1.heap.size w1 w7) := ⟨B7, B8, o7, HB.out.grown gr7 bsz zb⟩; clear B7 B8 o7 gr7 at7)
      have FN := hd_fin P7.out.1 P7.out.2.1 P7.out.2.2.1 KB.out HQ.out P7.out.2.2.2
      have F9 : Hid (HdAns C r p w (.returned (.agg #[.int .i64 ((r.now : Nat) : Int), .slice aa an ac, .slice (some ⟨gf, of, none⟩) 0 0, .slice (some ⟨g7, 0, none⟩) (k + 1) cp7])) (((((w7.setCell ⟨Q, 3, none⟩ (.slice (some ⟨g7, 0, none⟩) (k + 1) cp7)).setCell ⟨Q + 1 + 1, 0, none⟩ (.int .i64 ((r.now : Nat) : Int))).setCell ⟨Q + 1 + 1, 1, none⟩ (.slice aa an ac)).setCell ⟨Q + 1 + 1, 2, none⟩ (.slice (some ⟨gf, of, none⟩) 0 0)).setCell ⟨Q + 1 + 1, 3, none⟩ (.slice (some ⟨g7, 0, none⟩) (k + 1) cp7))) := hd_sent HC.out.1 HC.out.2 RR.out HR.out.2 HN.out FN.2.2 (by have := KB.out.size; omega) FN.2.1
      have FB : Hid (Blk (Q + 1 + 1) 34 [.int .i64 ((r.now : Nat) : Int), .slice aa an ac, .slice (some ⟨gf, of, none⟩) 0 0, .slice (some ⟨g7, 0, none⟩) (k + 1) cp7] (((((w7.setCell ⟨Q, 3, none⟩ (.slice (some ⟨g7, 0, none⟩) (k + 1) cp7)).setCell ⟨Q + 1 + 1, 0, none⟩ (.int .i64 ((r.now : Nat) : Int))).setCell ⟨Q + 1 + 1, 1, none⟩ (.slice aa an ac)).setCell ⟨Q + 1 + 1, 2, none⟩ (.slice (some ⟨gf, of, none⟩) 0 0)).setCell ⟨Q + 1 + 1, 3, none⟩ (.slice (some ⟨g7, 0, none⟩) (k + 1) cp7))) := FN.1
      clear FN P7
      go_wp2_with fail
      exact ret_blk rfl rfl (Q + 1 + 1) _ [.int .i64 ((r.now : Nat) : Int), .slice aa an ac, .slice (some ⟨gf, of, none⟩) 0 0, .slice (some ⟨g7, 0, none⟩) (k + 1) cp7] _ rfl FB.out Try.underlying34 rfl (by kernel_rfl) F9.out
set_option maxRecDepth 40000 in
set_option maxHeartbeats 8000000 in
theorem handed_d2 (C : Nat → Prop) (r : RNt) (p : Pk) (w : World) (aa : Option Addr) (an ac : Nat) (fa : Option Addr) (fn fc : Nat) (ma : Option Addr) (mn mc : Nat) (h : RefV C w r aa an ac fa fn fc ma mn mc) (hp : Bd C w p.ba p.bn p.bc p.bs) (hnow : r.now ≤ 1000000000) (hms : r.ms.length ≤ 1000000000) (f : Nat) (fs : List Nat) (hx : f = 100) (hf : r.fs = f :: fs) (h1 : fc ≠ 1) :
    Calls Try.prog 41 #[.agg #[.int .i64 ((r.now : Nat) : Int), .slice aa an ac, .slice fa fn fc, .slice ma mn mc], .agg #[.bool p.ack, .int .i64 p.id, .slice p.ba p.bn p.bc, .int .i64 0, .int .i64 0]] w (HdAns C r p w) := by
  obtain ⟨i0, hi0, hz0, hz1, hz2⟩ := info_parts infoMs
  obtain ⟨N, hN⟩ : ∃ N, r.ms.length = N := ⟨_, rfl⟩
  have HN : Hid (r.ms.length = N) := hN
  have hmn : mn = N := by
    obtain ⟨_, _, ev⟩ := h.mss.len
    injection ev with _ ev _
    rw [ev, hN]
  subst hmn
  have RM : Hid (RowM 0 w (.slice ma mn mc) r.ms) := h.mss
  have HR : Hid (RefV C w r aa an ac fa fn fc ma mn mc ∧ Bd C w p.ba p.bn p.bc p.bs) := ⟨h, hp⟩
  rw [hN] at hms
  clear hN hp
  obtain ⟨gf, of, cf, ev, lgf, c0⟩ := RdB.first (by have := h.fts; rw [hf] at this; exact this)
  injection ev with e1 e2 e3
  subst e1 e2 e3
  have hle : fs.length + 1 ≤ fc := by
    obtain ⟨_, _, e, h2, _⟩ := h.fts
    injection e with _ _ e3
    rw [hf] at h2
    simp at h2
    omega
  subst hx
  have HC : Hid (r.fs.headD 49 ≠ 120 ∧ rmsg p r.now (r.fs.headD 49) = ⟨p.ack, p.id, p.ba, p.bn, p.bc, p.bs, r.now + 1, r.now + 2⟩) := by
    show _ ∧ _
    rw [hf]
    exact ⟨by simp, rfl⟩
  have hft := h.fts
  rw [hf] at hft
  have RR : Hid (RefV C w (rfate1 r) aa an ac (some ⟨gf, of + 1, none⟩) (fs.length) (fc - 1) ma mn mc) := ⟨h.acc, (by show RdB w _ r.fs.tail; rw [hf]; have := Rd.tail1 hft (o' := of + 1) (fun _ => rfl); rw [Nat.add_sub_cancel] at this; exact this), h.mss, h.ca, h.cf, h.cm, h.ba, h.bm, h.c⟩
  clear h hft hf
  obtain ⟨L, hL⟩ : ∃ L, fs.length = L := ⟨_, rfl⟩
  rw [hL] at hle RR ⊢
  have i0' : (0 : Int) < ((L + 1 : Nat) : Int) := by omega
  clear hL
  have c0w : (((w.alloc (.cells #[.int .i64 ((r.now : Nat) : Int), .slice aa an ac, .slice (some ⟨gf, of, none⟩) (L + 1) fc, .slice ma mn mc] 34)).alloc (.cells #[.bool p.ack, .int .i64 p.id, .slice p.ba p.bn p.bc, .int .i64 0, .int .i64 0] 84)).alloc (.cells #[.int .i64 0, .slice none 0 0, .slice none 0 0, .slice none 0 0] 34)).cell? ⟨gf, of, none⟩ = some (.int .u8 (100 : Int)) := by
    exact ((below_trans (below_trans (below_alloc _ _) (below_alloc _ _)) (below_alloc _ _) : Below w.heap.size w _).cell lgf).trans c0
  clear c0
  go_enter Try.func41, Try.ntmps41
  go_upto_region 12 with fail
  have K1 : Hid (Blk w.heap.size 34 [.int .i64 ((r.now : Nat) : Int), .slice aa an ac, .slice (some ⟨gf, of + 1, none⟩) L (fc - 1), .slice ma mn mc] (((w.alloc (.cells #[.int .i64 ((r.now : Nat) : Int), .slice aa an ac, .slice (some ⟨gf, of + 1, none⟩) L (fc - 1), .slice ma mn mc] 34)).alloc (.cells #[.bool p.ack, .int .i64 p.id, .slice p.ba p.bn p.bc, .int .i64 (((r.now : Nat) : Int) + 1), .int .i64 (((r.now : Nat) : Int) + 2)] 84)).alloc (.cells #[.int .i64 0, .slice none 0 0, .slice none 0 0, .slice none 0 0] 34)) ∧ Blk (w.heap.size + 1) 84 [.bool p.ack, .int .i64 p.id, .slice p.ba p.bn p.bc, .int .i64 (((r.now : Nat) : Int) + 1), .int .i64 (((r.now : Nat) : Int) + 2)] (((w.alloc (.cells #[.int .i64 ((r.now : Nat) : Int), .slice aa an ac, .slice (some ⟨gf, of + 1, none⟩) L (fc - 1), .slice ma mn mc] 34)).alloc (.cells #[.bool p.ack, .int .i64 p.id, .slice p.ba p.bn p.bc, .int .i64 (((r.now : Nat) : Int) + 1), .int .i64 (((r.now : Nat) : Int) + 2)] 84)).alloc (.cells #[.int .i64 0, .slice none 0 0, .slice none 0 0, .slice none 0 0] 34)) ∧ Blk (w.heap.size + 1 + 1) 34 [.int .i64 0, .slice none 0 0, .slice none 0 0, .slice none 0 0] (((w.alloc (.cells #[.int .i64 ((r.now : Nat) : Int), .slice aa an ac, .slice (some ⟨gf, of + 1, none⟩) L (fc - 1), .slice ma mn mc] 34)).alloc (.cells #[.bool p.ack, .int .i64 p.id, .slice p.ba p.bn p.bc, .int .i64 (((r.now : Nat) : Int) + 1), .int .i64 (((r.now : Nat) : Int) + 2)] 84)).alloc (.cells #[.int .i64 0, .slice none 0 0, .slice none 0 0, .slice none 0 0] 34)) ∧ (((w.alloc (.cells #[.int .i64 ((r.now : Nat) : Int), .slice aa an ac, .slice (some ⟨gf, of + 1, none⟩) L (fc - 1), .slice ma mn mc] 34)).alloc (.cells #[.bool p.ack, .int .i64 p.id, .slice p.ba p.bn p.bc, .int .i64 (((r.now : Nat) : Int) + 1), .int .i64 (((r.now : Nat) : Int) + 2)] 84)).alloc (.cells #[.int .i64 0, .slice none 0 0, .slice none 0 0, .slice none 0 0] 34)).heap.size = w.heap.size + 3) := ⟨((Blk.new _ _ _).old _).old _, (Blk.new2 _ _ _ _).old _, Blk.new3 _ _ _ _ _, by simp⟩
  have KB : Hid (Below w.heap.size w (((w.alloc (.cells #[.int .i64 ((r.now : Nat) : Int), .slice aa an ac, .slice (some ⟨gf, of + 1, none⟩) L (fc - 1), .slice ma mn mc] 34)).alloc (.cells #[.bool p.ack, .int .i64 p.id, .slice p.ba p.bn p.bc, .int .i64 (((r.now : Nat) : Int) + 1), .int .i64 (((r.now : Nat) : Int) + 2)] 84)).alloc (.cells #[.int .i64 0, .slice none 0 0, .slice none 0 0, .slice none 0 0] 34))) := below_trans (below_trans (below_alloc _ _) (below_alloc _ _)) (below_alloc _ _)
  obtain ⟨Q, hQ⟩ : ∃ Q, w.heap.size = Q := ⟨_, rfl⟩
  rw [hQ] at K1 ⊢
  have HQ : Hid (w.heap.size = Q) := hQ
  clear hQ
  generalize ((w.alloc (.cells #[.int .i64 ((r.now : Nat) : Int), .slice aa an ac, .slice (some ⟨gf, of + 1, none⟩) L (fc - 1), .slice ma mn mc] 34)).alloc (.cells #[.bool p.ack, .int .i64 p.id, .slice p.ba p.bn p.bc, .int .i64 (((r.now : Nat) : Int) + 1), .int .i64 (((r.now : Nat) : Int) + 2)] 84)).alloc (.cells #[.int .i64 0, .slice none 0 0, .slice none 0 0, .slice none 0 0] 34) = w1 at *
  go_wp2_with fail
  go_loopw [7, 6] (fun vk vl wr => ∃ k : Nat, ∃ la ln lc, vk = .int .i64 (k : Int) ∧ vl = .slice la ln lc ∧ k ≤ mn ∧ wr.ownsRow w1.heap.size 84 5 (.slice la ln lc) k ((r.ms.take k).flatMap msL) ∧ Below w1.heap.size w1 wr) (fun vk _ _ => mn - (intOf vk).toNat)
  case atStart => exact ⟨0, none, 0, 0, rfl, rfl, by omega, World.ownsRow_nil _ _ _ _, Below.refl _ _⟩
  case round =>
    obtain ⟨k, la, ln, lc, rfl, rfl, hk, hro, hbw⟩ := hrel
    have q3 := (K1.out.1.below hbw).cell 3 _ rfl
    have lQ : Q < wr.heap.size := (K1.out.1.below hbw).lt
    by_cases hlt : (k : Int) < (mn : Int)
    · obtain ⟨x, hx⟩ : ∃ x, r.ms[k]? = some x := ⟨r.ms[k]'(by rw [HN.out]; omega), List.getElem?_eq_getElem _⟩
      obtain ⟨gm, rfl, lgm, y0, y1, y2, y3, y4⟩ := RowM.at (own_grown RM.out (grownBy_below (below_trans KB.out hbw) none) (fun _ _ => by simp)) hx
      have TS : Hid ((r.ms.take (k + 1)).flatMap msL = (r.ms.take k).flatMap msL ++ msL x) := by show _ = _; rw [List.take_add_one, hx, List.flatMap_append]; simp
      have OW : Hid (wr.ownsRow w1.heap.size 84 5 (.slice la ln lc) k ((r.ms.take k).flatMap msL)) := hro
      have HB : Hid (Below w1.heap.size w1 wr) := hbw
      have bsz : w1.heap.size ≤ wr.heap.size := hbw.size
      have l1 : k + 1 ≤ maxLen := by unfold maxLen; omega
      have l2 : (k + 1) * 56 ≤ 140737488355328 := by omega
      have hkN : k < mn := by omega
      clear hro hbw hx
      go_wp2_with (at_builtin; refine wpList_pushR rfl (.tmp 48) (.tmp 54) 32 rfl 84 i0 (.agg #[.bool false, .int .i64 0, .slice none 0 0, .int .i64 0, .int .i64 0]) 5 56 Try.underlying32 hi0 hz0 hz1 hz2 rfl (by decide) w1.heap.size _ k ((r.ms.take k).flatMap msL) (msL x) rfl (msL_one x) rfl OW.out bsz rfl l1 l2 ?_; intro g7 cp7 w7 o7 gr7 at7)
      have F7 : Hid (w7.ownsRow w1.heap.size 84 5 (.slice (some ⟨g7, 0, none⟩) (k + 1) cp7) (k + 1) ((r.ms.take (k + 1)).flatMap msL) ∧ Below w1.heap.size w1 w7) := ⟨by rw [TS.out]; exact o7, HB.out.grown gr7 bsz (fun x e => (own_heap OW.out e).1)⟩
      clear o7 gr7 at7 OW HB TS
      go_roundw
      case rel => exact ⟨k + 1, _, _, _, by go_num, rfl, by omega, F7.out⟩
      case measure => simp [intOf]; omega
    · obtain rfl : k = mn := by omega
      have e1 : r.ms.take k = r.ms := List.take_of_length_le (by rw [HN.out]; exact Nat.le_refl _)
      rw [e1] at hro
      have OW : Hid (wr.ownsRow w1.heap.size 84 5 (.slice la ln lc) k (r.ms.flatMap msL)) := hro
      have HB : Hid (Below w1.heap.size w1 wr) := hbw
      have bsz : w1.heap.size ≤ wr.heap.size := hbw.size
      have BQ := K1.out.1.below hbw
      have BM := K1.out.2.1.below hbw
      have BR := K1.out.2.2.1.below hbw
      have m0 := BM.cell 0 _ rfl
      have m1 := BM.cell 1 _ rfl
      have m2 := BM.cell 2 _ rfl
      have m3 := BM.cell 3 _ rfl
      have m4 := BM.cell 4 _ rfl
      have lM := BM.lt
      have BB : Hid (Blk Q 34 [.int .i64 ((r.now : Nat) : Int), .slice aa an ac, .slice (some ⟨gf, of + 1, none⟩) L (fc - 1), .slice ma k mc] wr ∧ Blk (Q + 1 + 1) 34 [.int .i64 0, .slice none 0 0, .slice none 0 0, .slice none 0 0] wr) := ⟨BQ, BR⟩
      have l1 : k + 1 ≤ maxLen := by unfold maxLen; omega
      have l2 : (k + 1) * 56 ≤ 140737488355328 := by omega
      clear hro hbw BQ BM BR
      go_upto_region 17 with fail
      go_wp2_with (at_builtin; refine wpList_pushR rfl (.tmp 56) (.tmp 58) 32 rfl 84 i0 (.agg #[.bool false, .int .i64 0, .slice none 0 0, .int .i64 0, .int .i64 0]) 5 56 Try.underlying32 hi0 hz0 hz1 hz2 rfl (by decide) w1.heap.size _ k (r.ms.flatMap msL) [.bool p.ack, .int .i64 p.id, .slice p.ba p.bn p.bc, .int .i64 (((r.now : Nat) : Int) + 1), .int .i64 (((r.now : Nat) : Int) + 2)] rfl (msL_one (⟨p.ack, p.id, p.ba, p.bn, p.bc, p.bs, (r.now + 1), (r.now + 2)⟩ : Ms)) rfl OW.out bsz rfl l1 l2 ?_; intro g7 cp7 w7 o7 gr7 at7; have z1 : w1.heap.size = Q + 3 := K1.out.2.2.2; have zb : ∀ y, (Value.slice la ln lc).ownBlock = some y → w1.heap.size ≤ y := (fun y e => (own_heap OW.out e).1); have B7 := BB.out.1.grown gr7 (fun e => by have := zb Q e; omega); have B8 := BB.out.2.grown gr7 (fun e => by have := zb (Q + 1 + 1) e; omega); have cc0 := B7.cell 0 _ rfl; have cc1 := B7.cell 1 _ rfl; have cc2 := B7.cell 2 _ rfl; have cc3 := B7.cell 3 _ rfl; have ff3 := B7.fz 3; have lt7 := B7.lt; have dd0 := B8.cell 0 _ rfl; have dd1 := B8.cell 1 _ rfl; have dd2 := B8.cell 2 _ rfl; have dd3 := B8.cell 3 _ rfl; have ff := B8.fz; have lt8 := B8.lt; have P7 : Hid (Blk Q 34 [.int .i64 ((r.now : Nat) : Int), .slice aa an ac, .slice (some ⟨gf, of + 1, none⟩) L (fc - 1), .slice ma k mc] w7 ∧ Blk (Q + 1 + 1) 34 [.int .i64 0, .slice none 0 0, .slice none 0 0, .slice none 0 0] w7 ∧ w7.ownsRow w1.heap.size 84 5 (.slice (some ⟨g7, 0, none⟩) (k + 1) cp7) (k + 1) (r.ms.flatMap msL ++ msL (⟨p.ack, p.id, p.ba, p.bn, p.bc, p.bs, (r.now + 1), (r.now + 2)⟩ : Ms)) ∧ Below w1.heap.size w1 w7) := ⟨B7, B8, o7, HB.out.grown gr7 bsz zb⟩; clear B7 B8 o7 gr7 at7)
      have FN := hd_fin P7.out.1 P7.out.2.1 P7.out.2.2.1 KB.out HQ.out P7.out.2.2.2
      have F9 : Hid (HdAns C r p w (.returned (.agg #[.int .i64 ((r.now : Nat) : Int), .slice aa an ac, .slice (some ⟨gf, of + 1, none⟩) L (fc - 1), .slice (some ⟨g7, 0, none⟩) (k + 1) cp7])) (((((w7.setCell ⟨Q, 3, none⟩ (.slice (some ⟨g7, 0, none⟩) (k + 1) cp7)).setCell ⟨Q + 1 + 1, 0, none⟩ (.int .i64 ((r.now : Nat) : Int))).setCell ⟨Q + 1 + 1, 1, none⟩ (.slice aa an ac)).setCell ⟨Q + 1 + 1, 2, none⟩ (.slice (some ⟨gf, of + 1, none⟩) L (fc - 1))).setCell ⟨Q + 1 + 1, 3, none⟩ (.slice (some ⟨g7, 0, none⟩) (k + 1) cp7))) := hd_sent HC.out.1 HC.out.2 RR.out HR.out.2 HN.out FN.2.2 (by have := KB.out.size; omega) FN.2.1
      have FB : Hid (Blk (Q + 1 + 1) 34 [.int .i64 ((r.now : Nat) : Int), .slice aa an ac, .slice (some ⟨gf, of + 1, none⟩) L (fc - 1), .slice (some ⟨g7, 0, none⟩) (k + 1) cp7] (((((w7.setCell ⟨Q, 3, none⟩ (.slice (some ⟨g7, 0, none⟩) (k + 1) cp7)).setCell ⟨Q + 1 + 1, 0, none⟩ (.int .i64 ((r.now : Nat) : Int))).setCell ⟨Q + 1 + 1, 1, none⟩ (.slice aa an ac)).setCell ⟨Q + 1 + 1, 2, none⟩ (.slice (some ⟨gf, of + 1, none⟩) L (fc - 1))).setCell ⟨Q + 1 + 1, 3, none⟩ (.slice (some ⟨g7, 0, none⟩) (k + 1) cp7))) := FN.1
      clear FN P7
      go_wp2_with fail
      exact ret_blk rfl rfl (Q + 1 + 1) _ [.int .i64 ((r.now : Nat) : Int), .slice aa an ac, .slice (some ⟨gf, of + 1, none⟩) L (fc - 1), .slice (some ⟨g7, 0, none⟩) (k + 1) cp7] _ rfl FB.out Try.underlying34 rfl (by kernel_rfl) F9.out
end Go.Proofs.Ytcnhcdlbippjoaa
